/-
  What a thing of Basic says; what extensions say by Basic, by Usage. What extensions say by Only: whether that is well; whether one is odd. Bytes as the one value of an extension: what it says. What is critical and unknown is odd (statement ExtOdd): the law's walk. What is critical and unknown is odd (statement ExtOdd): the law's walk.
-/
import Derived.Test.YtbdkopcmdefhoaaDoorExU
import Derived.Test.YtbdkopcmdefhoaaDoorAt7
import Derived.Test.YtbdkopcmdefhoaaDoorTx4
import Derived.Test.YtbdkopcmdefhoaaDoorTx5
import Derived.Test.YtbdkopcmdefhoaaDoorDnM
import Derived.Test.YtbdkopcmdefhoaaDoorTlv33
import Derived.Test.YtbdkopcmdefhoaaDoorTlv26
import Derived.Test.YtbdkopcmdefhoaaDoorExM
namespace Go.Proofs.YtbdkopcmdefhoaaDoor
open Go.RowKit
set_option linter.unusedVariables false
set_option linter.unusedSimpArgs false
attribute [local go_sem ↓] Go.wp_at_zero Go.wp_at_succ

def boolT (k : Tr) : Option Bool := boolOf k.tag k.kids.length k.body
def smallT (k : Tr) : Option Nat := smallOf (if heldOk k.tag k.kids.length 2 = true then gi k.body 9 else none)
theorem boolT_lt (t : Lt) : boolT t.t = boolOf t.tag t.kids.length t.body := by
  obtain ⟨h1, h2, h3⟩ := t_parts t
  unfold boolT
  rw [h1, h2, h3, List.length_map]
theorem smallT_lt (t : Lt) : smallT t.t = smallOf (if heldOk t.tag t.kids.length 2 = true then gi t.body 9 else none) := by
  obtain ⟨h1, h2, h3⟩ := t_parts t
  unfold smallT
  rw [h1, h2, h3, List.length_map]
/-- What a thing of Basic says: may it sign others, with how many between. -/
def basT (T : Tr) : Option (Bool × Int) :=
  if seqOk T.tag T.body.length 48 = false ∨ 2 < T.kids.length then none
  else if T.kids.length = 0 then some (false, -1)
  else if boolT (T.kids.getD 0 default) ≠ some true then none
  else if T.kids.length = 1 then some (true, -1)
  else match smallT (T.kids.getD 1 default) with
    | some v => if 100 < v then none else some (true, (v : Int))
    | none => none
def BasP (w : World) : Option (Bool × Int) → Ending → World → Prop
  | none, e, w' => e = .returned (.tuple #[.agg #[.bool false, .int .i64 0], .bool false]) ∧ Below w.heap.size w w'
  | some r, e, w' => e = .returned (.tuple #[.agg #[.bool r.1, .int .i64 r.2], .bool true]) ∧ Below w.heap.size w w'
theorem BasP.one {w : World} {o : Option (Bool × Int)} {e : Ending} {w' : World} (h : BasP w o e w') : e = .returned (.tuple #[.agg #[.bool (o.getD (false, 0)).1, .int .i64 (o.getD (false, 0)).2], .bool o.isSome]) ∧ Below w.heap.size w w' := by
  rcases o with _ | r <;> exact h
theorem below_two {w w' : World} (h : Below w.heap.size w w') (g : Nat) (hg : w.heap.size ≤ g) (a b : Value) : Below w.heap.size w ((w'.setCell ⟨g, 0, none⟩ a).setCell ⟨g, 1, none⟩ b) :=
  (h.setCell (p := ⟨g, 0, none⟩) hg _).setCell (p := ⟨g, 1, none⟩) hg _
theorem kid_prim {t : Lt} {w : World} (h : Off [] (ThP t) w) : Rd .u8 w w.heap.size t.ba t.bc t.body ∧ ∀ y ∈ t.body, y < 256 := by
  obtain ⟨tag, ba, bc, body, ka, kc, kids⟩ := t
  exact ⟨(ThP.iff.1 h.at_).2.1, (ThP.iff.1 h.at_).2.2.1⟩
set_option maxRecDepth 100000 in
set_option maxHeartbeats 16000000 in
theorem basicT_any (w : World) (t : Lt) (h : Off [] (ThP t) w) (hkk : t.t.kids.length ≤ 100000) :
    Calls Tryd.prog 12 #[t.val] w (BasP w (basT t.t)) := by
  obtain ⟨T, hTT⟩ : ∃ T, T = t.t := ⟨_, rfl⟩
  rw [← hTT]
  have HVAL : Hid (t.val = .agg #[.int .u8 (t.tag : Int), .slice t.ba t.body.length t.bc, .slice t.ka t.kids.length t.kc]) := Lib.hid rfl
  have hko : Off [] (KiP t.ka t.kc t.kids) w := by
    obtain ⟨tag, ba, bc, body, ka, kc, kids⟩ := t
    exact kids_off h
  have hkl : t.kids.length ≤ 100000 := by rw [(t_parts t).2.2, List.length_map] at hkk; exact hkk
  have HTK : Hid (T.kids = t.kids.map Lt.t ∧ seqOk T.tag T.body.length 48 = seqOk t.tag t.body.length 48) := Lib.hid (by rw [hTT, (t_parts t).1, (t_parts t).2.1, (t_parts t).2.2]; exact ⟨rfl, rfl⟩)
  rw [HVAL.out]
  obtain ⟨ks, hks⟩ : ∃ ks, ks = t.kids := ⟨_, rfl⟩
  rw [← hks] at hko hkl HTK HVAL ⊢
  clear h hTT hks hkk
  generalize t.tag = tag at *
  generalize t.ba = ba at *
  generalize t.bc = bc at *
  generalize t.body.length = n at *
  generalize t.ka = ka at *
  generalize t.kc = kc at *
  obtain ⟨kn, hkn⟩ : ∃ k, k = ks.length := ⟨_, rfl⟩
  have HKN := Lib.hid hkn
  have HTL : Hid (T.kids.length = kn) := Lib.hid (by rw [HTK.out.1, List.length_map, hkn])
  rw [← hkn] at hkl HVAL ⊢
  obtain ⟨r, HR⟩ : ∃ r, Hid (r = basT T) := ⟨_, rfl⟩
  rw [← HR.out]
  have hH1 := (Holds.fresh w 41 #[.int .u8 (tag : Int), .slice ba n bc, .slice ka kn kc]).alloc (.cells #[.bool false, .int .i64 0] 27)
  have hHb := Holds.fresh (w.alloc (.cells #[.int .u8 (tag : Int), .slice ba n bc, .slice ka kn kc] 41)) 27 #[.bool false, .int .i64 0]
  have hs1 : (w.alloc (.cells #[.int .u8 (tag : Int), .slice ba n bc, .slice ka kn kc] 41)).heap.size = w.heap.size + 1 := by simp
  rw [hs1] at hHb
  have hbv : Below w.heap.size w ((w.alloc (.cells #[.int .u8 (tag : Int), .slice ba n bc, .slice ka kn kc] 41)).alloc (.cells #[.bool false, .int .i64 0] 27)) := ((Below.refl _ _).alloc (Nat.le_refl _) _).alloc (by rw [hs1]; omega) _
  have hk1 := (hko.alloc (.cells #[.int .u8 (tag : Int), .slice ba n bc, .slice ka kn kc] 41)).alloc (.cells #[.bool false, .int .i64 0] 27)
  have HGS := Lib.hid (getSeq_any _ [] tag n bc kn kc 48 ba ka ks hk1 hkn.symm (by omega) hkl (by simp))
  have HHB := Lib.hid hHb
  have HBV := Lib.hid hbv
  have c0 := hH1.cell 0
  have c1 := hH1.cell 1
  have c2 := hH1.cell 2
  have HL : Hid (w.heap.size ≤ w.heap.size + 1) := Lib.hid (by omega)
  clear hko hkn hH1 hk1 hHb hbv hs1
  rcases hsq : seqOk tag n 48 with _ | _
  case false =>
    have HE : Hid (r = none) := Lib.hid (by rw [HR.out]; unfold basT; rw [if_pos (.inl (by rw [HTK.out.2, hsq]))])
    rw [hsq] at HGS
    go_enter Tryd.func12, Tryd.ntmps12
    go_wp2_with fail
    refine HGS.out.mono ?_
    rintro e w3 ⟨rfl, hb3⟩
    have HB3 := Lib.hid (HBV.out.trans (hb3.mono HBV.out.size))
    have hz3 := HHB.out.under hb3 HHB.out.lt
    have z0 := hz3.cell 0
    have z1 := hz3.cell 1
    have y0 := hz3.open_ 0
    have y1 := hz3.open_ 1
    have HZ3 := Lib.hid hz3
    clear hb3 HGS hz3 c0 c1 c2
    go_wp2_with fail
    rw [HE.out]
    exact ret_basic rfl rfl rfl ((HZ3.out.stored 0 _).stored 1 _) rfl ⟨rfl, below_two HB3.out _ HL.out _ _⟩
  rw [hsq] at HGS
  have HSQ := Lib.hid hsq
  clear hsq
  by_cases h2 : 2 < kn
  case pos =>
    have HE : Hid (r = none) := Lib.hid (by rw [HR.out]; unfold basT; rw [if_pos (.inr (by rw [HTL.out]; exact h2))])
    have d2 : decide ((2 : Int) < (kn : Int)) = true := decide_eq_true (by omega)
    go_enter Tryd.func12, Tryd.ntmps12
    go_wp2_with fail
    refine HGS.out.mono ?_
    rintro e w3 ⟨A3, c3, rfl, hk3, hb3⟩
    rw [← HKN.out]
    have HB3 := Lib.hid (HBV.out.trans (hb3.mono HBV.out.size))
    have hz3 := HHB.out.under hb3 HHB.out.lt
    have z0 := hz3.cell 0
    have z1 := hz3.cell 1
    have y0 := hz3.open_ 0
    have y1 := hz3.open_ 1
    have HZ3 := Lib.hid hz3
    clear hb3 HGS hz3 c0 c1 c2 hk3
    go_wp2_with fail
    rw [HE.out]
    exact ret_basic rfl rfl rfl ((HZ3.out.stored 0 _).stored 1 _) rfl ⟨rfl, below_two HB3.out _ HL.out _ _⟩
  have d2 : decide ((2 : Int) < (kn : Int)) = false := decide_eq_false (by omega)
  have HN0 : Hid (¬ (seqOk T.tag T.body.length 48 = false ∨ 2 < T.kids.length)) := Lib.hid (by rw [HTK.out.2, HSQ.out, HTL.out]; simp; omega)
  by_cases h0 : kn = 0
  case pos =>
    have HE : Hid (r = some (false, -1)) := Lib.hid (by rw [HR.out]; unfold basT; rw [if_neg HN0.out, if_pos (by rw [HTL.out]; exact h0)])
    have d0 : ((kn : Int) == 0) = true := by rw [beq_iff_eq]; omega
    clear h0 h2
    go_enter Tryd.func12, Tryd.ntmps12
    go_wp2_with fail
    refine HGS.out.mono ?_
    rintro e w3 ⟨A3, c3, rfl, hk3, hb3⟩
    rw [← HKN.out]
    have HB3 := Lib.hid (HBV.out.trans (hb3.mono HBV.out.size))
    have hz3 := HHB.out.under hb3 HHB.out.lt
    have z0 := hz3.cell 0
    have z1 := hz3.cell 1
    have y0 := hz3.open_ 0
    have y1 := hz3.open_ 1
    have HZ3 := Lib.hid hz3
    clear hb3 HGS hz3 c0 c1 c2 hk3
    go_wp2_with fail
    rw [HE.out]
    exact ret_basic rfl rfl rfl ((HZ3.out.stored 0 _).stored 1 _) rfl ⟨rfl, below_two HB3.out _ HL.out _ _⟩
  have d0 : ((kn : Int) == 0) = false := by rw [beq_eq_false_iff_ne]; omega
  go_enter Tryd.func12, Tryd.ntmps12
  go_wp2_with fail
  refine HGS.out.mono ?_
  rintro e w3 ⟨A3, c3, rfl, hk3, hb3⟩
  rw [← HKN.out]
  have hmc : kn ≤ c3 := by rw [HKN.out]; exact hk3.at_.1.1
  have HB3 := Lib.hid (HBV.out.trans (hb3.mono HBV.out.size))
  have HZ3 := Lib.hid (HHB.out.under hb3 HHB.out.lt)
  obtain ⟨g, off, rfl, hg, hcs⟩ := KiP.cells (j := 0) hk3 (by rw [← HKN.out]; omega)
  obtain ⟨q0, q1, q2⟩ := hcs w3 (Below.refl _ _)
  simp only [Nat.zero_mul, Nat.add_zero] at q0 q1 q2
  have HKD : Hid (∀ j, j < kn → Off [] (ThP (ks.getD j default)) w3) := Lib.hid fun j hj => KiP.kid hk3 (by rw [← HKN.out]; exact hj)
  have HK3 := Lib.hid hk3
  have hp0 := kid_prim (HKD.out 0 (by omega))
  have HBO := Lib.hid (getBool_any w3 (ks.getD 0 default).tag (ks.getD 0 default).body.length (ks.getD 0 default).bc (ks.getD 0 default).kids.length (ks.getD 0 default).kc _ (ks.getD 0 default).ba (ks.getD 0 default).ka (ks.getD 0 default).body hp0.1 rfl (Nat.le_refl _))
  have HB0 : Hid (boolOf (ks.getD 0 default).tag (ks.getD 0 default).kids.length (ks.getD 0 default).body = boolT (T.kids.getD 0 default)) := Lib.hid (by rw [HTK.out.1, lt_at (by rw [← HKN.out]; omega), boolT_lt])
  rw [HB0.out] at HBO
  clear hb3 HGS hk3 c0 c1 c2 hcs hp0 HB0
  generalize (ks.getD 0 default).tag = qt at *
  generalize (ks.getD 0 default).ba = qa at *
  generalize (ks.getD 0 default).bc = qc at *
  generalize (ks.getD 0 default).body.length = qn at *
  generalize (ks.getD 0 default).ka = qk at *
  generalize (ks.getD 0 default).kids.length = qm at *
  generalize (ks.getD 0 default).kc = qd at *
  obtain ⟨o, HO⟩ : ∃ o, Hid (o = boolT (T.kids.getD 0 default)) := ⟨_, rfl⟩
  rw [← HO.out] at HBO
  by_cases ho : o = some true
  case neg =>
    have HE : Hid (r = none) := Lib.hid (by rw [HR.out]; unfold basT; rw [if_neg HN0.out, if_neg (by rw [HTL.out]; exact h0), if_pos (by rw [← HO.out]; exact ho)])
    have ho2 : o.getD false = false := by
      rcases o with _ | _ | _
      · rfl
      · rfl
      · exact absurd rfl ho
    clear ho
    go_wp2_with fail
    refine HBO.out.mono ?_
    rintro e w4 ⟨rfl, hb4⟩
    rw [ho2]
    have HB4 := Lib.hid (HB3.out.trans (hb4.mono HB3.out.size))
    have hz4 := HZ3.out.under hb4 HZ3.out.lt
    have z0 := hz4.cell 0
    have z1 := hz4.cell 1
    have y0 := hz4.open_ 0
    have y1 := hz4.open_ 1
    have HZ4 := Lib.hid hz4
    clear hb4 hz4 q0 q1 q2 HBO
    go_wp2_with fail
    rw [HE.out]
    exact ret_basic rfl rfl rfl ((HZ4.out.stored 0 _).stored 1 _) rfl ⟨rfl, below_two HB4.out _ HL.out _ _⟩
  have HOT : Hid (boolT (T.kids.getD 0 default) = some true) := Lib.hid (by rw [← HO.out, ho])
  rw [ho] at HBO
  clear ho HO
  by_cases h1 : kn = 1
  case pos =>
    have HE : Hid (r = some (true, -1)) := Lib.hid (by rw [HR.out]; unfold basT; rw [if_neg HN0.out, if_neg (by rw [HTL.out]; exact h0), if_neg (by rw [HOT.out]; simp), if_pos (by rw [HTL.out]; exact h1)])
    have d1 : ((kn : Int) == 1) = true := by rw [beq_iff_eq]; omega
    have hk0 : 0 < kn := by omega
    clear h1 h0 h2
    go_wp2_with fail
    refine HBO.out.mono ?_
    rintro e w4 ⟨rfl, hb4⟩
    rw [show (some true).getD false = true from rfl]
    have HB4 := Lib.hid (HB3.out.trans (hb4.mono HB3.out.size))
    have hz4 := HZ3.out.under hb4 HZ3.out.lt
    have z0 := hz4.cell 0
    have z1 := hz4.cell 1
    have y0 := hz4.open_ 0
    have y1 := hz4.open_ 1
    have HZ4 := Lib.hid hz4
    clear hb4 hz4 q0 q1 q2 HBO
    go_wp2_with fail
    rw [HE.out]
    exact ret_basic rfl rfl rfl ((HZ4.out.stored 0 _).stored 1 _) rfl ⟨rfl, below_two HB4.out _ HL.out _ _⟩
  obtain rfl : kn = 2 := by omega
  clear h0 h2 d0 d2
  go_wp2_with fail
  refine HBO.out.mono ?_
  rintro e w4 ⟨rfl, hb4⟩
  rw [show (some true).getD false = true from rfl]
  have HB4 := Lib.hid (HB3.out.trans (hb4.mono HB3.out.size))
  have HZ4 := Lib.hid (HZ3.out.under hb4 HZ3.out.lt)
  obtain ⟨g', off', he, hg', hcs⟩ := KiP.cells (j := 1) HK3.out (by rw [← HKN.out]; omega)
  obtain ⟨rfl, rfl⟩ : g = g' ∧ off = off' := by injection he with he; injection he with h1 h2; exact ⟨h1, h2⟩
  obtain ⟨p0, p1, p2⟩ := hcs w4 hb4
  simp only [Nat.one_mul, Nat.add_assoc, Nat.reduceAdd] at p0 p1 p2
  have hp1 := kid_prim ((HKD.out 1 (by omega)).under hb4)
  have HSM := Lib.hid (getSmall_any w4 (ks.getD 1 default).tag (ks.getD 1 default).body.length (ks.getD 1 default).bc (ks.getD 1 default).kids.length (ks.getD 1 default).kc _ (ks.getD 1 default).ba (ks.getD 1 default).ka (ks.getD 1 default).body hp1.1 rfl (Nat.le_refl _) hp1.2)
  have HS1 : Hid (smallOf (if heldOk (ks.getD 1 default).tag (ks.getD 1 default).kids.length 2 = true then gi (ks.getD 1 default).body 9 else none) = smallT (T.kids.getD 1 default)) := Lib.hid (by rw [HTK.out.1, lt_at (by rw [← HKN.out]; omega), smallT_lt])
  rw [HS1.out] at HSM
  clear hb4 hcs hp1 HS1 q0 q1 q2 HBO he
  generalize (ks.getD 1 default).tag = pt at *
  generalize (ks.getD 1 default).ba = pa at *
  generalize (ks.getD 1 default).bc = pc at *
  generalize (ks.getD 1 default).body.length = pn at *
  generalize (ks.getD 1 default).ka = pk at *
  generalize (ks.getD 1 default).kids.length = pm at *
  generalize (ks.getD 1 default).kc = pd at *
  have HRN : Hid (r = match smallT (T.kids.getD 1 default) with | some v => if 100 < v then none else some (true, (v : Int)) | none => none) := Lib.hid (by rw [HR.out]; unfold basT; rw [if_neg HN0.out, if_neg (by rw [HTL.out]; omega), if_neg (by rw [HOT.out]; simp), if_neg (by rw [HTL.out]; omega)])
  rcases hsm : smallT (T.kids.getD 1 default) with _ | v
  · have HE : Hid (r = none) := Lib.hid (by rw [HRN.out, hsm])
    rw [hsm] at HSM
    clear hsm HRN
    go_wp2_with fail
    refine HSM.out.mono ?_
    rintro e w5 ⟨rfl, hb5⟩
    have HB5 := Lib.hid (HB4.out.trans (hb5.mono HB4.out.size))
    have hz5 := HZ4.out.under hb5 HZ4.out.lt
    have z0 := hz5.cell 0
    have z1 := hz5.cell 1
    have y0 := hz5.open_ 0
    have y1 := hz5.open_ 1
    have HZ5 := Lib.hid hz5
    clear hb5 hz5 p0 p1 p2 HSM
    go_wp2_with fail
    rw [HE.out]
    exact ret_basic rfl rfl rfl ((HZ5.out.stored 0 _).stored 1 _) rfl ⟨rfl, below_two HB5.out _ HL.out _ _⟩
  rw [hsm] at HSM
  by_cases hv : 100 < v
  case pos =>
    have HE : Hid (r = none) := Lib.hid (by rw [HRN.out, hsm]; exact if_pos hv)
    have d5 : decide ((100 : Int) < (v : Int)) = true := decide_eq_true (by omega)
    clear hsm HRN
    go_wp2_with fail
    refine HSM.out.mono ?_
    rintro e w5 ⟨rfl, hb5⟩
    have HB5 := Lib.hid (HB4.out.trans (hb5.mono HB4.out.size))
    have hz5 := HZ4.out.under hb5 HZ4.out.lt
    have z0 := hz5.cell 0
    have z1 := hz5.cell 1
    have y0 := hz5.open_ 0
    have y1 := hz5.open_ 1
    have HZ5 := Lib.hid hz5
    clear hb5 hz5 p0 p1 p2 HSM
    go_wp2_with fail
    rw [HE.out]
    exact ret_basic rfl rfl rfl ((HZ5.out.stored 0 _).stored 1 _) rfl ⟨rfl, below_two HB5.out _ HL.out _ _⟩
  have HE : Hid (r = some (true, (v : Int))) := Lib.hid (by rw [HRN.out, hsm]; exact if_neg hv)
  have d5 : decide ((100 : Int) < (v : Int)) = false := decide_eq_false (by omega)
  have hv2 : v ≤ 100 := by omega
  have hw5 : IntKind.i64.wrap (v : Int) = (v : Int) := by
    simp [IntKind.wrap, IntKind.bits, IntKind.signed]
    try omega
  clear hsm HRN
  go_wp2_with fail
  refine HSM.out.mono ?_
  rintro e w5 ⟨rfl, hb5⟩
  have HB5 := Lib.hid (HB4.out.trans (hb5.mono HB4.out.size))
  have hz5 := HZ4.out.under hb5 HZ4.out.lt
  have z0 := hz5.cell 0
  have z1 := hz5.cell 1
  have y0 := hz5.open_ 0
  have y1 := hz5.open_ 1
  have HZ5 := Lib.hid hz5
  clear hb5 hz5 p0 p1 p2 HSM
  go_wp2_with fail
  rw [HE.out]
  exact ret_basic rfl rfl rfl ((HZ5.out.stored 0 _).stored 1 _) rfl ⟨rfl, below_two HB5.out _ HL.out _ _⟩
/-- What extensions say by Basic. -/
def basS : Option (Except Nat Tr) → Option (Bool × Int)
  | none => some (false, -1)
  | some (.error _) => none
  | some (.ok T) => basT T
set_option maxRecDepth 100000 in
set_option maxHeartbeats 8000000 in
theorem basicS_any (w : World) (A : Option Addr) (c n : Nat) (l : List Ex) (h : XP A c l w) (hn : l.length = n) (hsz : ∀ x ∈ l, x.id.length ≤ 12000 ∧ x.val.length ≤ 12000) (hsv : ∀ T, saidOf (l.map Ex.v) [85, 29, 19] = some (.ok T) → T.kids.length ≤ 100000) :
    Calls Tryd.prog 4 #[.slice A n c] w (BasP w (basS (saidOf (l.map Ex.v) [85, 29, 19]))) := by
  obtain ⟨V, hV⟩ : ∃ V, V = w.alloc (.cells #[.bool false, .int .i64 0] 27) := ⟨_, rfl⟩
  have hz : Holds V w.heap.size 27 #[.bool false, .int .i64 0] := by rw [hV]; exact Holds.fresh _ _ _
  have HB0 : Hid (Below w.heap.size w V) := Lib.hid (by rw [hV]; exact (Below.refl _ _).alloc (Nat.le_refl _) _)
  have hv := value_any V A c n l [85, 29, 19] ((Off.of_x h).under HB0.out).at_ hn (by simp) (by simp) hsz
  rw [show str [85, 29, 19] = ⟨#[85, 29, 19]⟩ from rfl] at hv
  have hlt : w.heap.size < V.heap.size := hz.lt
  have HZ := Lib.hid hz
  have HV := Lib.hid hV
  have HL : Hid (w.heap.size ≤ w.heap.size) := Lib.hid (Nat.le_refl _)
  have HC := Lib.hid hv
  clear hz hV h hn hsz hv
  generalize saidOf (l.map Ex.v) [85, 29, 19] = sv at *
  go_enter Tryd.func4, Tryd.ntmps4
  go_wp2_with fail
  rw [← HV.out]
  refine HC.out.mono ?_
  clear HC
  rcases sv with _ | y | T
  · rintro e w2 ⟨rfl, hb2⟩
    have hq : Below w2.heap.size w2 (w2.alloc (.cells #[.int .u8 0, .slice none 0 0, .slice none 0 0] 41)) := (Below.refl _ _).alloc (Nat.le_refl _) _
    have HB2 := Lib.hid (HB0.out.trans (hb2.mono HB0.out.size))
    have HB3 := Lib.hid (HB2.out.trans (hq.mono HB2.out.size))
    have hz3 := (HZ.out.under hb2 hlt).alloc (.cells #[.int .u8 0, .slice none 0 0, .slice none 0 0] 41)
    have z0 := hz3.cell 0
    have z1 := hz3.cell 1
    have y0 := hz3.open_ 0
    have y1 := hz3.open_ 1
    have HZ3 := Lib.hid hz3
    clear hb2 hq hz3 HV
    go_wp2_with fail
    exact ret_basic rfl rfl rfl ((HZ3.out.stored 0 _).stored 1 _) rfl ⟨rfl, below_two HB3.out _ HL.out _ _⟩
  · rintro e w2 ⟨rfl, hb2⟩
    have hq : Below w2.heap.size w2 (w2.alloc (.cells #[.int .u8 0, .slice none 0 0, .slice none 0 0] 41)) := (Below.refl _ _).alloc (Nat.le_refl _) _
    have HB2 := Lib.hid (HB0.out.trans (hb2.mono HB0.out.size))
    have HB3 := Lib.hid (HB2.out.trans (hq.mono HB2.out.size))
    have hz3 := (HZ.out.under hb2 hlt).alloc (.cells #[.int .u8 0, .slice none 0 0, .slice none 0 0] 41)
    have z0 := hz3.cell 0
    have z1 := hz3.cell 1
    have y0 := hz3.open_ 0
    have y1 := hz3.open_ 1
    have HZ3 := Lib.hid hz3
    clear hb2 hq hz3 HV
    go_wp2_with fail
    exact ret_basic rfl rfl rfl ((HZ3.out.stored 0 _).stored 1 _) rfl ⟨rfl, below_two HB3.out _ HL.out _ _⟩
  · rintro e w2 ⟨t, rfl, hT, hth, hb2⟩
    have hT2 : t.t.kids.length ≤ 100000 := by rw [hT]; exact hsv T rfl
    have HVAL : Hid (t.val = .agg #[.int .u8 (t.tag : Int), .slice t.ba t.body.length t.bc, .slice t.ka t.kids.length t.kc]) := Lib.hid rfl
    have hb := basicT_any (w2.alloc (.cells #[.int .u8 (t.tag : Int), .slice t.ba t.body.length t.bc, .slice t.ka t.kids.length t.kc] 41)) t (hth.alloc _) hT2
    rw [hT, HVAL.out] at hb
    rw [HVAL.out]
    have HBA := Lib.hid hb
    have hH3 := Holds.fresh w2 41 #[.int .u8 (t.tag : Int), .slice t.ba t.body.length t.bc, .slice t.ka t.kids.length t.kc]
    have hq : Below w2.heap.size w2 (w2.alloc (.cells #[.int .u8 (t.tag : Int), .slice t.ba t.body.length t.bc, .slice t.ka t.kids.length t.kc] 41)) := (Below.refl _ _).alloc (Nat.le_refl _) _
    have HB2 := Lib.hid (HB0.out.trans (hb2.mono HB0.out.size))
    have HB3 := Lib.hid (HB2.out.trans (hq.mono HB2.out.size))
    have HZ3 := Lib.hid ((HZ.out.under hb2 hlt).alloc (.cells #[.int .u8 (t.tag : Int), .slice t.ba t.body.length t.bc, .slice t.ka t.kids.length t.kc] 41))
    have x0 := hH3.cell 0
    have x1 := hH3.cell 1
    have x2 := hH3.cell 2
    clear hb2 hq HV hb hH3 hth hT hT2 hsv HVAL
    generalize t.tag = tag at *
    generalize t.ba = ba at *
    generalize t.bc = bc at *
    generalize t.body.length = tn at *
    generalize t.ka = ka at *
    generalize t.kids.length = kn at *
    generalize t.kc = kc at *
    go_wp2_with fail
    refine HBA.out.mono ?_
    rintro e w5 hp
    obtain ⟨rfl, hb5⟩ := BasP.one hp
    have HP : Hid (BasP w (basT T) (.returned (.tuple #[.agg #[.bool ((basT T).getD (false, 0)).1, .int .i64 ((basT T).getD (false, 0)).2], .bool (basT T).isSome])) = BasP w (basT T) (.returned (.tuple #[.agg #[.bool ((basT T).getD (false, 0)).1, .int .i64 ((basT T).getD (false, 0)).2], .bool (basT T).isSome]))) := Lib.hid rfl
    have HB5 := Lib.hid (HB3.out.trans (hb5.mono HB3.out.size))
    have hz5 := HZ3.out.under hb5 HZ3.out.lt
    have z0 := hz5.cell 0
    have z1 := hz5.cell 1
    have y0 := hz5.open_ 0
    have y1 := hz5.open_ 1
    have HZ5 := Lib.hid hz5
    have HFI : Hid (∀ W, Below w.heap.size w W → BasP w (basT T) (.returned (.tuple #[.agg #[.bool ((basT T).getD (false, 0)).1, .int .i64 ((basT T).getD (false, 0)).2], .bool (basT T).isSome])) W) := Lib.hid fun W hW => by
      rcases basT T with _ | r <;> exact ⟨rfl, hW⟩
    obtain ⟨ra, hra⟩ : ∃ x, x = ((basT T).getD (false, 0)).1 := ⟨_, rfl⟩
    obtain ⟨rb, hrb⟩ : ∃ x, x = ((basT T).getD (false, 0)).2 := ⟨_, rfl⟩
    obtain ⟨rs, hrs⟩ : ∃ x, x = (basT T).isSome := ⟨_, rfl⟩
    rw [← hra, ← hrb, ← hrs] at HFI
    rw [← hra, ← hrb, ← hrs]
    clear hb5 hz5 x0 x1 x2 HBA hp HP hra hrb hrs
    go_wp2_with fail
    exact ret_basic rfl rfl rfl ((HZ5.out.stored 0 _).stored 1 _) rfl (HFI.out _ (below_two HB5.out _ HL.out _ _))
/-- What extensions say by Usage. -/
def useS : Option (Except Nat Tr) → Option (Option Nat)
  | none => some none
  | some (.error _) => none
  | some (.ok T) => match bitsOf T.tag T.kids.length T.body with
    | some b => if b.length = 1 then some (some (b.getD 0 0)) else none
    | none => none
def UseP (w : World) (o : Option (Option Nat)) (e : Ending) (w' : World) : Prop :=
  e = .returned (.tuple #[.int .u8 (((o.getD none).getD 0 : Nat) : Int), .bool (o.getD none).isSome, .bool o.isSome]) ∧ Below w.heap.size w w'
set_option maxRecDepth 100000 in
set_option maxHeartbeats 8000000 in
theorem usageS_any (w : World) (A : Option Addr) (c n : Nat) (l : List Ex) (h : XP A c l w) (hn : l.length = n) (hsz : ∀ x ∈ l, x.id.length ≤ 12000 ∧ x.val.length ≤ 12000) (hsv : ∀ T, saidOf (l.map Ex.v) [85, 29, 15] = some (.ok T) → T.body.length ≤ 12000) :
    Calls Tryd.prog 5 #[.slice A n c] w (UseP w (useS (saidOf (l.map Ex.v) [85, 29, 15]))) := by
  have hv := value_any w A c n l [85, 29, 15] h hn (by simp) (by simp) hsz
  rw [show str [85, 29, 15] = ⟨#[85, 29, 15]⟩ from rfl] at hv
  have HC := Lib.hid hv
  clear h hn hsz hv
  generalize saidOf (l.map Ex.v) [85, 29, 15] = sv at *
  go_enter Tryd.func5, Tryd.ntmps5
  go_wp2_with fail
  refine HC.out.mono ?_
  clear HC
  rcases sv with _ | y | T
  · rintro e w2 ⟨rfl, hb2⟩
    have HB3 : Hid (Below w.heap.size w (w2.alloc (.cells #[.int .u8 0, .slice none 0 0, .slice none 0 0] 41))) := Lib.hid (hb2.alloc hb2.size _)
    clear hb2
    go_wp2_with fail
    go_ret3
    exact ⟨rfl, HB3.out⟩
  · rintro e w2 ⟨rfl, hb2⟩
    have HB3 : Hid (Below w.heap.size w (w2.alloc (.cells #[.int .u8 0, .slice none 0 0, .slice none 0 0] 41))) := Lib.hid (hb2.alloc hb2.size _)
    clear hb2
    go_wp2_with fail
    go_ret3
    exact ⟨rfl, HB3.out⟩
  · rintro e w2 ⟨t, rfl, hT, hth, hb2⟩
    have hT2 : t.body.length ≤ 12000 := by rw [← (t_parts t).2.1, hT]; exact hsv T rfl
    have HVAL : Hid (t.val = .agg #[.int .u8 (t.tag : Int), .slice t.ba t.body.length t.bc, .slice t.ka t.kids.length t.kc]) := Lib.hid rfl
    have hp := kid_prim (hth.alloc (.cells #[.int .u8 (t.tag : Int), .slice t.ba t.body.length t.bc, .slice t.ka t.kids.length t.kc] 41))
    have hgb := getBits_any _ t.tag t.body.length t.bc t.kids.length t.kc _ t.ba t.ka t.body hp.1 rfl (Nat.le_refl _) hT2
    have hbe : bitsOf t.tag t.kids.length t.body = bitsOf T.tag T.kids.length T.body := by rw [← hT, (t_parts t).1, (t_parts t).2.1, (t_parts t).2.2, List.length_map]
    rw [hbe] at hgb
    have HGB := Lib.hid hgb
    rw [HVAL.out]
    have HOC : Hid (∀ b, bitsOf T.tag T.kids.length T.body = some b → ∀ y ∈ b, y < 256) := Lib.hid fun b hb y hy => by
      rw [← hbe] at hb
      unfold bitsOf at hb
      split at hb
      · injection hb with hb
        subst hb
        exact hp.2 y (List.mem_of_mem_drop hy)
      · cases hb
    have hH3 := Holds.fresh w2 41 #[.int .u8 (t.tag : Int), .slice t.ba t.body.length t.bc, .slice t.ka t.kids.length t.kc]
    have hq : Below w2.heap.size w2 (w2.alloc (.cells #[.int .u8 (t.tag : Int), .slice t.ba t.body.length t.bc, .slice t.ka t.kids.length t.kc] 41)) := (Below.refl _ _).alloc (Nat.le_refl _) _
    have HB3 := Lib.hid (hb2.trans (hq.mono hb2.size))
    have x0 := hH3.cell 0
    have x1 := hH3.cell 1
    have x2 := hH3.cell 2
    clear hb2 hq hgb hH3 hth hT hT2 hsv HVAL hp hbe
    generalize t.tag = tag at *
    generalize t.ba = ba at *
    generalize t.bc = bc at *
    generalize t.body.length = tn at *
    generalize t.ka = ka at *
    generalize t.kids.length = kn at *
    generalize t.kc = kc at *
    have HRU : Hid (useS (some (.ok T)) = match bitsOf T.tag T.kids.length T.body with | some b => if b.length = 1 then some (some (b.getD 0 0)) else none | none => none) := Lib.hid rfl
    rcases hb : bitsOf T.tag T.kids.length T.body with _ | b
    · have HE : Hid (useS (some (.ok T)) = none) := Lib.hid (by rw [HRU.out, hb])
      rw [hb] at HGB
      clear hb HRU
      go_wp2_with fail
      refine HGB.out.mono ?_
      rintro e w5 ⟨rfl, hb5⟩
      have HB5 := Lib.hid (HB3.out.trans (hb5.mono HB3.out.size))
      clear hb5 x0 x1 x2 HGB
      go_wp2_with fail
      go_ret3
      rw [HE.out]
      exact ⟨rfl, HB5.out⟩
    have hoc := HOC.out b hb
    rw [hb] at HGB
    by_cases h1 : b.length = 1
    case neg =>
      have HE : Hid (useS (some (.ok T)) = none) := Lib.hid (by rw [HRU.out, hb]; exact if_neg h1)
      have d1 : ((b.length : Int) != 1) = true := by simp; omega
      clear hb HRU hoc
      go_wp2_with fail
      refine HGB.out.mono ?_
      rintro e w5 ⟨A5, c5, rfl, hm5, hb5⟩
      have HB5 := Lib.hid (HB3.out.trans (hb5.mono HB3.out.size))
      generalize b.length = bn at *
      clear hb5 x0 x1 x2 HGB hm5
      go_wp2_with fail
      go_ret3
      rw [HE.out]
      exact ⟨rfl, HB5.out⟩
    have HE : Hid (useS (some (.ok T)) = some (some (b.getD 0 0))) := Lib.hid (by rw [HRU.out, hb]; exact if_pos h1)
    obtain ⟨y, rfl⟩ : ∃ y, b = [y] := by
      rcases b with _ | ⟨y, _ | ⟨z, r⟩⟩
      · simp at h1
      · exact ⟨y, rfl⟩
      · simp at h1
    clear hb HRU h1
    go_wp2_with fail
    refine HGB.out.mono ?_
    rintro e w5 ⟨A5, c5, rfl, hm5, hb5⟩
    obtain ⟨g, off, rfl, hg, hcs⟩ := hm5.cells_ (by simp)
    have x5 := hcs 0 (by simp)
    simp only [List.getD_cons_zero, Nat.add_zero] at x5
    have hle : 1 ≤ c5 := hm5.rd.1
    have HB5 := Lib.hid (HB3.out.trans (hb5.mono HB3.out.size))
    rw [show ([y] : List Nat).length = 1 from rfl]
    clear hb5 x0 x1 x2 HGB hm5 hcs
    go_wp2_with fail
    go_ret3
    rw [HE.out]
    exact ⟨rfl, HB5.out⟩
end Go.Proofs.YtbdkopcmdefhoaaDoor
namespace Go.Proofs.YtbdkopcmdefhoaaDoor
open Go.RowKit
set_option linter.unusedVariables false
set_option linter.unusedSimpArgs false
attribute [local go_sem ↓] Go.wp_at_zero Go.wp_at_succ

theorem info_attrs : (Tryd.prog.info? 76).map (fun i => (i.zero, i.size, i.bytes)) = some (some (.slice none 0 0), 1, 24) := by kernel_rfl
theorem getD_some {w : World} {T : Tr} {e : Ending} {w1 : World} (h : GetDPost w T e w1) : ∃ A n c b, e = .returned (.tuple #[.slice A n c, .bool b]) ∧ Below w.heap.size w w1 := by
  rcases h with ⟨A, c, l, rfl, h1, h2, h3, h4⟩ | ⟨rfl, h1, h2⟩
  · exact ⟨A, l.length, c, true, rfl, h4⟩
  · exact ⟨none, 0, 0, false, rfl, h2⟩
def OnP (w : World) (sv : Option (Except Nat Tr)) (e : Ending) (w' : World) : Prop :=
  ∃ A n c s x, e = .returned (.tuple #[.slice A n c, .bool s, .bool x]) ∧ Hid ((sv = none → x = true) ∧ ∀ y, sv = some (.error y) → x = false) ∧ Below w.heap.size w w'
theorem onP_ok {w w' : World} {T : Tr} {A : Option Addr} {n c : Nat} {s x : Bool} (hb : Below w.heap.size w w') : OnP w (some (.ok T)) (.returned (.tuple #[.slice A n c, .bool s, .bool x])) w' :=
  ⟨A, n, c, s, x, rfl, Lib.hid ⟨fun h => (by cases h), fun y h => (by injection h with h; cases h)⟩, hb⟩
set_option maxRecDepth 100000 in
set_option maxHeartbeats 16000000 in
theorem listedA_any (w : World) (X : Value) (s : ByteArray) (sv : Option (Except Nat Tr)) (hT : Lib.Utf8Tabs 1 2 w) (h : Calls Tryd.prog 11 #[X, .string s] w (ValuePost w sv)) (hsv : ∀ T, sv = some (.ok T) → T.kids.length ≤ 100000 ∧ ∀ k ∈ T.kids, FitG k) :
    Calls Tryd.prog 16 #[X, .string s, .func (.func 17) #[] #[]] w (OnP w sv) := by
  have HT := Lib.hid hT
  clear hT
  go_enter Tryd.func16, Tryd.ntmps16
  go_wp2_with fail
  refine h.mono ?_
  clear h
  rcases sv with _ | y | T
  · rintro e w2 ⟨rfl, hb2⟩
    have HB3 : Hid (Below w.heap.size w (w2.alloc (.cells #[.int .u8 0, .slice none 0 0, .slice none 0 0] 41))) := Lib.hid (hb2.alloc hb2.size _)
    clear hb2
    go_wp2_with fail
    go_ret3
    exact ⟨_, _, _, _, _, rfl, Lib.hid ⟨fun _ => rfl, fun y h => (by cases h)⟩, HB3.out⟩
  · rintro e w2 ⟨rfl, hb2⟩
    have HB3 : Hid (Below w.heap.size w (w2.alloc (.cells #[.int .u8 0, .slice none 0 0, .slice none 0 0] 41))) := Lib.hid (hb2.alloc hb2.size _)
    clear hb2
    go_wp2_with fail
    go_ret3
    exact ⟨_, _, _, _, _, rfl, Lib.hid ⟨fun h => (by cases h), fun _ _ => rfl⟩, HB3.out⟩
  rintro e w2 ⟨t, rfl, hT, hth, hb2⟩
  obtain ⟨hkT, hfit⟩ := hsv T rfl
  have HVAL : Hid (t.val = .agg #[.int .u8 (t.tag : Int), .slice t.ba t.body.length t.bc, .slice t.ka t.kids.length t.kc]) := Lib.hid rfl
  have hko : Off [] (KiP t.ka t.kc t.kids) w2 := by
    obtain ⟨tag, ba, bc, body, ka, kc, kids⟩ := t
    exact kids_off hth
  have htk : T.kids = t.kids.map Lt.t := by rw [← hT, (t_parts t).2.2]
  have hkl : t.kids.length ≤ 100000 := by rw [htk, List.length_map] at hkT; exact hkT
  have HFIT : Hid (∀ j, j < t.kids.length → FitG (t.kids.getD j default).t) := Lib.hid fun j hj => hfit _ (by rw [htk]; exact List.mem_map_of_mem (getD_mem hj))
  rw [HVAL.out]
  obtain ⟨ks, hks⟩ : ∃ ks, ks = t.kids := ⟨_, rfl⟩
  rw [← hks] at hko hkl HFIT HVAL ⊢
  clear hth hT hks hsv hkT hfit htk
  generalize t.tag = tag at *
  generalize t.ba = ba at *
  generalize t.bc = bc at *
  generalize t.body.length = n at *
  generalize t.ka = ka at *
  generalize t.kc = kc at *
  obtain ⟨kn, hkn⟩ : ∃ k, k = ks.length := ⟨_, rfl⟩
  have HKN := Lib.hid hkn
  rw [← hkn] at hkl HFIT HVAL ⊢
  have hH1 := Holds.fresh w2 41 #[.int .u8 (tag : Int), .slice ba n bc, .slice ka kn kc]
  have hq1 : Below w2.heap.size w2 (w2.alloc (.cells #[.int .u8 (tag : Int), .slice ba n bc, .slice ka kn kc] 41)) := (Below.refl _ _).alloc (Nat.le_refl _) _
  have HB1 : Hid (Below w.heap.size w (w2.alloc (.cells #[.int .u8 (tag : Int), .slice ba n bc, .slice ka kn kc] 41))) := Lib.hid (hb2.trans (hq1.mono hb2.size))
  have hk1 := hko.alloc (.cells #[.int .u8 (tag : Int), .slice ba n bc, .slice ka kn kc] 41)
  have HGS := Lib.hid (getSeq_any _ [] tag n bc kn kc 48 ba ka ks hk1 hkn.symm (by omega) hkl (by simp))
  have c0 := hH1.cell 0
  have c1 := hH1.cell 1
  have c2 := hH1.cell 2
  clear hko hkn hH1 hk1 hb2 hq1
  rcases hsq : seqOk tag n 48 with _ | _
  case false =>
    rw [hsq] at HGS
    go_wp2_with fail
    refine HGS.out.mono ?_
    rintro e w3 ⟨rfl, hb3⟩
    have HB3 := Lib.hid (HB1.out.trans (hb3.mono HB1.out.size))
    clear hb3 HGS
    go_wp2_with fail
    go_ret3
    exact onP_ok HB3.out
  rw [hsq] at HGS
  clear hsq
  by_cases h0 : kn < 1
  case pos =>
    have d1 : decide ((kn : Int) < (1 : Int)) = true := decide_eq_true (by omega)
    go_wp2_with fail
    refine HGS.out.mono ?_
    rintro e w3 ⟨A3, c3, rfl, hk3, hb3⟩
    rw [← HKN.out]
    have HB3 := Lib.hid (HB1.out.trans (hb3.mono HB1.out.size))
    clear hb3 HGS hk3
    go_wp2_with fail
    go_ret3
    exact onP_ok HB3.out
  have d1 : decide ((kn : Int) < (1 : Int)) = false := decide_eq_false (by omega)
  by_cases h8 : 8 < kn
  case pos =>
    have d8 : decide ((8 : Int) < (kn : Int)) = true := decide_eq_true (by omega)
    go_wp2_with fail
    refine HGS.out.mono ?_
    rintro e w3 ⟨A3, c3, rfl, hk3, hb3⟩
    rw [← HKN.out]
    have HB3 := Lib.hid (HB1.out.trans (hb3.mono HB1.out.size))
    clear hb3 HGS hk3
    go_wp2_with fail
    go_ret3
    exact onP_ok HB3.out
  have d8 : decide ((8 : Int) < (kn : Int)) = false := decide_eq_false (by omega)
  go_wp2_with fail
  refine HGS.out.mono ?_
  rintro e w3 ⟨A3, c3, rfl, hk3, hb3⟩
  rw [← HKN.out]
  have HB3 := Lib.hid (HB1.out.trans (hb3.mono HB1.out.size))
  have HK3 := Lib.hid hk3
  have hmc : kn ≤ c3 := by rw [HKN.out]; exact hk3.at_.1.1
  have hc63 := hk3.at_.1.2.1
  clear hb3 HGS hk3 c0 c1 c2
  go_wp2_with fail
  go_loopw [6, 44] (fun lv iv wr => ∃ (i : Nat) (A : Option Addr) (c : Nat) (L : List Value), i ≤ kn ∧ iv = .int .i64 (i : Int) ∧ lv = .slice A i c ∧ OwnV 76 1 wr A c i L ∧ Hid (∀ g, blockOf A = some g → w3.heap.size ≤ g) ∧ Below w3.heap.size w3 wr) (fun _ iv _ => kn - (intOf iv).toNat)
  case atStart => exact ⟨0, none, 0, [], by omega, rfl, rfl, OwnV.nil _ _ _, Lib.hid (fun g hg => by simp [blockOf] at hg), Below.refl _ _⟩
  case round =>
    obtain ⟨i, A, c, L, hi, rfl, rfl, hE, HG, hB⟩ := hrel
    have HB := Lib.hid hB
    have HE := Lib.hid hE
    clear hB hE d1 d8
    by_cases hlt : i < kn
    · have hk4 := HK3.out.under HB.out
      obtain ⟨g, off, rfl, hg, hcs⟩ := KiP.cells (j := i) hk4 (by rw [← HKN.out]; exact hlt)
      obtain ⟨q0, q1, q2⟩ := hcs wr (Below.refl _ _)
      have hti := KiP.kid hk4 (j := i) (by rw [← HKN.out]; exact hlt)
      have HFI := Lib.hid (HFIT.out i hlt)
      obtain ⟨q, hq⟩ : ∃ q, q = ks.getD i default := ⟨_, rfl⟩
      rw [← hq] at q0 q1 q2 hti HFI
      clear hq hcs hk4
      have hq1 : Below wr.heap.size wr (wr.alloc (.cells #[.int .u8 (q.tag : Int), .slice q.ba q.body.length q.bc, .slice q.ka q.kids.length q.kc] 41)) := (Below.refl _ _).alloc (Nat.le_refl _) _
      have hHq := Holds.fresh wr 41 #[.int .u8 (q.tag : Int), .slice q.ba q.body.length q.bc, .slice q.ka q.kids.length q.kc]
      have z0 := hHq.cell 0
      have z1 := hHq.cell 1
      have z2 := hHq.cell 2
      have HON : Hid (Calls Tryd.prog 17 #[.agg #[.int .u8 (q.tag : Int), .slice q.ba q.body.length q.bc, .slice q.ka q.kids.length q.kc]] (wr.alloc (.cells #[.int .u8 (q.tag : Int), .slice q.ba q.body.length q.bc, .slice q.ka q.kids.length q.kc] 41)) (GetDPost (wr.alloc (.cells #[.int .u8 (q.tag : Int), .slice q.ba q.body.length q.bc, .slice q.ka q.kids.length q.kc] 41)) q.t)) := Lib.hid (getD_any (wr.alloc (.cells #[.int .u8 (q.tag : Int), .slice q.ba q.body.length q.bc, .slice q.ka q.kids.length q.kc] 41)) q (hti.under hq1) HFI.out (Utf8Tabs_below HT.out (HB3.out.trans ((HB.out.trans (hq1.mono HB.out.size)).mono HB3.out.size))))
      have HQ1 := Lib.hid hq1
      clear hq1 hti HFI hHq
      generalize q.tag = qt at *
      generalize q.ba = qa at *
      generalize q.bc = qc at *
      generalize q.body.length = qn at *
      generalize q.ka = qk at *
      generalize q.kids.length = qm at *
      generalize q.kc = qd at *
      go_wp2_with fail
      refine HON.out.mono ?_
      intro e w5 hp
      obtain ⟨A5, n5, c5, b5, rfl, hb5⟩ := getD_some hp
      have hb15 := HQ1.out.trans (hb5.mono HQ1.out.size)
      have hq6 : Below w5.heap.size w5 (w5.alloc (.cells #[.slice A5 n5 c5] 76)) := (Below.refl _ _).alloc (Nat.le_refl _) _
      have hb17 := hb15.trans (hq6.mono hb15.size)
      have HB7 := Lib.hid (HB.out.trans (hb17.mono HB.out.size))
      have HB5 := Lib.hid (HB3.out.trans ((HB.out.trans (hb15.mono HB.out.size)).mono HB3.out.size))
      have HE7 := Lib.hid (HE.out.keep fun g _ hg => hb17.block g hg)
      have HFX : Hid (Holds (w5.alloc (.cells #[.slice A5 n5 c5] 76)) w5.heap.size 76 [.slice A5 n5 c5].toArray) := Lib.hid (Holds.fresh _ _ _)
      clear hp hb5 hb15 hq6 hb17 z0 z1 z2 q0 q1 q2 HON
      cases b5 with
      | false =>
        go_wp2_with fail
        go_ret3
        exact onP_ok HB5.out
      | true =>
        go_wp2_with (first | (at_builtin; refine wpList_pushV _ rfl (.tmp 56) (.tmp 58) 35 rfl 76 _ 1 24 Tryd.underlying35 info_attrs rfl (by omega) (by omega) rfl HE7.out (cs := [.slice A5 n5 c5]) rfl rfl one1b HFX.out (by omega) ?_; intro g9 c9 W9 ho9 hg9 hat9 hlt9))
        have HE9 := Lib.hid ho9
        have HB9 := Lib.hid (below_own HB7.out hg9 HG.out (Nat.le_refl _))
        have HG9 : Hid (∀ g, blockOf (some (⟨g9, 0, none⟩ : Addr)) = some g → w3.heap.size ≤ g) := Lib.hid fun g hg => by
          rcases hat9 with h | h
          · exact HG.out g (h.trans (by simpa [blockOf] using hg))
          · have e : g9 = g := by simpa [blockOf] using hg
            have := HB7.out.size
            omega
        clear ho9 hg9 hat9 HFX HE7
        go_wp2_with fail
        go_roundw
        case rel => exact ⟨i + 1, _, _, _, by omega, by go_num, rfl, HE9.out, HG9, HB9.out⟩
        case measure => simp [intOf]; omega
    · obtain rfl : i = kn := by omega
      have HBW := Lib.hid (HB3.out.trans (HB.out.mono HB3.out.size))
      go_wp2_with fail
      go_ret3
      exact onP_ok HBW.out
set_option maxRecDepth 100000 in
theorem only_any (w : World) (A : Option Addr) (c n : Nat) (l : List Ex) (hT : Lib.Utf8Tabs 1 2 w) (h : XP A c l w) (hn : l.length = n) (hsz : ∀ x ∈ l, x.id.length ≤ 12000 ∧ x.val.length ≤ 12000) (hsv : ∀ T, saidOf (l.map Ex.v) [85, 29, 30] = some (.ok T) → T.kids.length ≤ 100000 ∧ ∀ k ∈ T.kids, FitG k) :
    Calls Tryd.prog 7 #[.slice A n c] w (OnP w (saidOf (l.map Ex.v) [85, 29, 30])) := by
  have hv := value_any w A c n l [85, 29, 30] h hn (by simp) (by simp) hsz
  rw [show str [85, 29, 30] = ⟨#[85, 29, 30]⟩ from rfl] at hv
  have HL := Lib.hid (listedA_any w _ _ _ hT hv hsv)
  clear hv
  generalize saidOf (l.map Ex.v) [85, 29, 30] = sv at *
  go_enter Tryd.func7, Tryd.ntmps7
  go_wp2_with fail
  refine HL.out.mono ?_
  rintro e w2 ⟨A2, n2, c2, s2, x2, rfl, HX, hb⟩
  have HB := Lib.hid hb
  clear hb
  go_wp2_with fail
  go_ret3
  exact ⟨_, _, _, _, _, rfl, HX, HB.out⟩
/-- Is an ID one of those that are known? -/
def known6 (id : List Nat) : Bool := decide (id = [85, 29, 19] ∨ id = [85, 29, 15] ∨ id = [85, 29, 37] ∨ id = [85, 29, 30] ∨ id = [85, 29, 14] ∨ id = [85, 29, 35])
theorem str3_iff {id : List Nat} (ho : Oct8 id) (x y z : Nat) (hx : x < 256) (hy : y < 256) (hz : z < 256) : ((str id).toList == [UInt8.ofNat x, UInt8.ofNat y, UInt8.ofNat z]) = decide (id = [x, y, z]) := by
  have h3 : Oct8 [x, y, z] := fun u hu => by simp at hu; omega
  rw [show [UInt8.ofNat x, UInt8.ofNat y, UInt8.ofNat z] = (str [x, y, z]).toList from (str_data [x, y, z]).symm]
  by_cases h : id = [x, y, z]
  · subst h; simp
  · rw [str_ne ho h3 h]; simp [h]
set_option maxRecDepth 100000 in
set_option maxHeartbeats 4000000 in
theorem known6_any (w : World) (id : List Nat) (ho : Oct8 id) :
    Calls Tryd.prog 18 #[.string (str id)] w fun e w' => e = .returned (.bool (known6 id)) ∧ w = w' := by
  have e1 : ((str id).toList == ([85, 29, 19] : List UInt8)) = decide (id = [85, 29, 19]) := str3_iff ho 85 29 19 (by omega) (by omega) (by omega)
  have e2 : ((str id).toList == ([85, 29, 15] : List UInt8)) = decide (id = [85, 29, 15]) := str3_iff ho 85 29 15 (by omega) (by omega) (by omega)
  have e3 : ((str id).toList == ([85, 29, 37] : List UInt8)) = decide (id = [85, 29, 37]) := str3_iff ho 85 29 37 (by omega) (by omega) (by omega)
  have e4 : ((str id).toList == ([85, 29, 30] : List UInt8)) = decide (id = [85, 29, 30]) := str3_iff ho 85 29 30 (by omega) (by omega) (by omega)
  have e5 : ((str id).toList == ([85, 29, 14] : List UInt8)) = decide (id = [85, 29, 14]) := str3_iff ho 85 29 14 (by omega) (by omega) (by omega)
  have e6 : ((str id).toList == ([85, 29, 35] : List UInt8)) = decide (id = [85, 29, 35]) := str3_iff ho 85 29 35 (by omega) (by omega) (by omega)
  obtain ⟨r, HR⟩ : ∃ r, Hid (r = known6 id) := ⟨_, rfl⟩
  rw [← HR.out]
  clear ho
  generalize str id = s at *
  by_cases h1 : id = [85, 29, 19]
  · have HE : Hid (r = true) := Lib.hid (by rw [HR.out]; unfold known6; simp [h1])
    rw [decide_eq_true h1] at e1
    clear h1 e2 e3 e4 e5 e6
    go_enter Tryd.func18, Tryd.ntmps18
    go_wp2_with fail
    go_ret
    rw [HE.out]
    exact ⟨rfl, rfl⟩
  rw [decide_eq_false h1] at e1
  by_cases h2 : id = [85, 29, 15]
  · have HE : Hid (r = true) := Lib.hid (by rw [HR.out]; unfold known6; simp [h2])
    rw [decide_eq_true h2] at e2
    clear h1 h2 e3 e4 e5 e6
    go_enter Tryd.func18, Tryd.ntmps18
    go_wp2_with fail
    go_ret
    rw [HE.out]
    exact ⟨rfl, rfl⟩
  rw [decide_eq_false h2] at e2
  by_cases h3 : id = [85, 29, 37]
  · have HE : Hid (r = true) := Lib.hid (by rw [HR.out]; unfold known6; simp [h3])
    rw [decide_eq_true h3] at e3
    clear h1 h2 h3 e4 e5 e6
    go_enter Tryd.func18, Tryd.ntmps18
    go_wp2_with fail
    go_ret
    rw [HE.out]
    exact ⟨rfl, rfl⟩
  rw [decide_eq_false h3] at e3
  by_cases h4 : id = [85, 29, 30]
  · have HE : Hid (r = true) := Lib.hid (by rw [HR.out]; unfold known6; simp [h4])
    rw [decide_eq_true h4] at e4
    clear h1 h2 h3 h4 e5 e6
    go_enter Tryd.func18, Tryd.ntmps18
    go_wp2_with fail
    go_ret
    rw [HE.out]
    exact ⟨rfl, rfl⟩
  rw [decide_eq_false h4] at e4
  by_cases h5 : id = [85, 29, 14]
  · have HE : Hid (r = true) := Lib.hid (by rw [HR.out]; unfold known6; simp [h5])
    rw [decide_eq_true h5] at e5
    clear h1 h2 h3 h4 h5 e6
    go_enter Tryd.func18, Tryd.ntmps18
    go_wp2_with fail
    go_ret
    rw [HE.out]
    exact ⟨rfl, rfl⟩
  rw [decide_eq_false h5] at e5
  by_cases h6 : id = [85, 29, 35]
  · have HE : Hid (r = true) := Lib.hid (by rw [HR.out]; unfold known6; simp [h6])
    rw [decide_eq_true h6] at e6
    clear h1 h2 h3 h4 h5 h6
    go_enter Tryd.func18, Tryd.ntmps18
    go_wp2_with fail
    go_ret
    rw [HE.out]
    exact ⟨rfl, rfl⟩
  rw [decide_eq_false h6] at e6
  have HE : Hid (r = false) := Lib.hid (by rw [HR.out]; unfold known6; simp [h1, h2, h3, h4, h5, h6])
  clear h1 h2 h3 h4 h5 h6
  go_enter Tryd.func18, Tryd.ntmps18
  go_wp2_with fail
  go_ret
  rw [HE.out]
  exact ⟨rfl, rfl⟩
/-- Is one critical, and unknown? -/
def oddS (l : List EV) : Bool := l.any fun e => e.cr && !known6 e.id
set_option maxRecDepth 100000 in
set_option maxHeartbeats 8000000 in
theorem odd_any (w : World) (A : Option Addr) (c n : Nat) (l : List Ex) (h : XP A c l w) (hn : l.length = n) :
    Calls Tryd.prog 8 #[.slice A n c] w fun e w' => e = .returned (.bool (oddS (l.map Ex.v))) ∧ Below w.heap.size w w' := by
  obtain ⟨r, HR⟩ : ∃ r, Hid (r = oddS (l.map Ex.v)) := ⟨_, rfl⟩
  rw [← HR.out]
  have hlc : n ≤ c := by rw [← hn]; exact h.1.1
  have hc63 := h.1.2.1
  have HN := Lib.hid hn
  have HX := Lib.hid (Off.of_x h)
  clear h hn
  go_enter Tryd.func8, Tryd.ntmps8
  go_wp2_with fail
  go_loopw [7] (fun iv wr => ∃ i : Nat, i ≤ n ∧ iv = .int .i64 (i : Int) ∧ Hid (∀ j, j < i → (((l.map Ex.v).getD j default).cr && !known6 ((l.map Ex.v).getD j default).id) = false) ∧ Below w.heap.size w wr) (fun iv _ => n - (intOf iv).toNat)
  case atStart => exact ⟨0, by omega, rfl, fun j hj => by omega, Below.refl _ _⟩
  case round =>
    obtain ⟨i, hi, rfl, HA, hB⟩ := hrel
    have HB3 := Lib.hid hB
    clear hB
    by_cases hlt : i < n
    · have hx := (HX.out.under HB3.out).at_
      obtain ⟨g, off, rfl, hg, hcs⟩ := hx.1.2.2 (by rw [HN.out]; omega)
      obtain ⟨c0, c1, c2'⟩ := hcs i (by rw [HN.out]; exact hlt)
      have hxe := hx.at_ (by rw [HN.out]; exact hlt)
      have HV1 : Hid ((l.map Ex.v).getD i default = (l.getD i default).v) := Lib.hid (ev_at (by rw [HN.out]; exact hlt))
      have HMM : Hid ((l.getD i default).v ∈ l.map Ex.v) := Lib.hid (List.mem_map_of_mem (getD_mem (by rw [HN.out]; exact hlt)))
      obtain ⟨e, he⟩ : ∃ e, e = l.getD i default := ⟨_, rfl⟩
      rw [← he] at c0 c1 c2' hxe HV1 HMM
      clear he hcs hx hg
      obtain ⟨ia, ic, id, cr, va, vc, val⟩ := e
      obtain ⟨hr1, ho1, hr2, ho2⟩ := hxe
      dsimp only at c0 c1 c2' hr1 ho1 hr2 ho2
      obtain ⟨n1, hn1⟩ : ∃ n1, id.length = n1 := ⟨_, rfl⟩
      obtain ⟨n2, hn2⟩ : ∃ n2, val.length = n2 := ⟨_, rfl⟩
      rw [hn1] at c0
      rw [hn2] at c2'
      have hq1 : Below wr.heap.size wr (wr.alloc (.cells #[.slice ia n1 ic, .bool cr, .slice va n2 vc] 24)) := (Below.refl _ _).alloc (Nat.le_refl _) _
      have hH1 := Holds.fresh wr 24 #[.slice ia n1 ic, .bool cr, .slice va n2 vc]
      have HB4 := Lib.hid (HB3.out.trans (hq1.mono HB3.out.size))
      have z0 := hH1.cell 0
      have z1 := hH1.cell 1
      have z2 := hH1.cell 2
      have hcv := conv_str (w := wr.alloc (.cells #[.slice ia n1 ic, .bool cr, .slice va n2 vc] 24)) (hr1.under hq1) hn1 ho1
      have HKN := Lib.hid (known6_any (wr.alloc (.cells #[.slice ia n1 ic, .bool cr, .slice va n2 vc] 24)) id ho1)
      have HNX : Hid ((cr && !known6 id) = false → ∀ j, j < i + 1 → (((l.map Ex.v).getD j default).cr && !known6 ((l.map Ex.v).getD j default).id) = false) := Lib.hid fun hc j hj => by
        rcases Nat.lt_or_ge j i with h3 | h3
        · exact HA.out j h3
        · obtain rfl : j = i := by omega
          rw [HV1.out]; exact hc
      have HTR : Hid ((cr && !known6 id) = true → r = true) := Lib.hid fun hc => by
        rw [HR.out]
        exact List.any_eq_true.2 ⟨_, HMM.out, hc⟩
      clear hr1 ho1 hr2 ho2 hn1 hn2 hq1 hH1 HV1 HMM
      generalize str id = s at *
      generalize known6 id = kn at *
      cases cr with
      | false =>
        have HC := Lib.hid (HNX.out rfl)
        clear HNX HTR hcv HKN
        go_wp2_with fail
        go_roundw
        case rel => exact ⟨i + 1, by omega, by go_num, HC, HB4.out⟩
        case measure => simp [intOf]; omega
      | true =>
        cases kn with
        | true =>
          have HC := Lib.hid (HNX.out rfl)
          clear HNX HTR
          go_wp2_with (first | (refine HKN.out.mono ?_; rintro e w4 ⟨rfl, rfl⟩))
          go_roundw
          case rel => exact ⟨i + 1, by omega, by go_num, HC, HB4.out⟩
          case measure => simp [intOf]; omega
        | false =>
          have HC := Lib.hid (HTR.out rfl)
          clear HNX HTR
          go_wp2_with (first | (refine HKN.out.mono ?_; rintro e w4 ⟨rfl, rfl⟩))
          go_ret
          rw [HC.out]
          exact ⟨rfl, HB4.out⟩
    · obtain rfl : i = n := by omega
      have HC : Hid (r = false) := Lib.hid (by
        rw [HR.out]
        unfold oddS
        rw [List.any_eq_false]
        intro x hx
        obtain ⟨j, hj, rfl⟩ := List.getElem_of_mem hx
        have h2 := HA.out j (by rw [List.length_map, HN.out] at hj; exact hj)
        rw [show (l.map Ex.v).getD j default = (l.map Ex.v)[j] by simp only [List.getD, List.getElem?_eq_getElem hj, Option.getD_some]] at h2
        rw [h2]; simp)
      go_wp2_with fail
      go_ret
      rw [HC.out]
      exact ⟨rfl, HB3.out⟩
end Go.Proofs.YtbdkopcmdefhoaaDoor
namespace Go.Proofs.YtbdkopcmdefhoaaDoor
open Go.RowKit
set_option linter.unusedVariables false
set_option linter.unusedSimpArgs false
attribute [local go_sem ↓] Go.wp_at_zero Go.wp_at_succ

theorem fit_encG {t : Tr} (h : t.enc.length ≤ 12000) : FitG t := by
  have h1 := enc_split t
  have h2 := encs_len t.kids
  refine ⟨by omega, fun k hk => ?_⟩
  have h3 := encs_kid hk
  have h4 := enc_split k
  have h5 := encs_len k.kids
  refine ⟨by omega, fun k2 hk2 => ?_⟩
  have h6 := encs_kid hk2
  have h7 := enc_split k2
  have h8 := encs_len k2.kids
  refine ⟨by omega, fun p hp => ?_⟩
  have h9 := encs_kid hp
  have h10 := enc_split p
  omega
theorem fit_read {L : List Nat} {T : Tr} (ho : ∀ x ∈ L, x < 256) (hl : L.length ≤ 12000) (h : readT L = .ok T) : T.kids.length ≤ 12000 ∧ T.body.length ≤ 12000 ∧ ∀ k ∈ T.kids, FitG k := by
  have h0 : T.enc.length ≤ 12000 := by rw [(readT_is ho h).1]; exact hl
  have h1 := enc_split T
  have h2 := encs_len T.kids
  refine ⟨by omega, by omega, fun k hk => fit_encG ?_⟩
  have := encs_kid hk
  omega
theorem said_one {i q : List Nat} {cr : Bool} {L : List Nat} : saidOf [⟨i, cr, L⟩] q = if i = q then some (readT L) else none := by
  unfold saidOf firstX
  by_cases h : i = q
  · simp [h]
  · simp [h, firstX]
theorem said_ok {i q : List Nat} {cr : Bool} {L : List Nat} {T : Tr} (h : saidOf [⟨i, cr, L⟩] q = some (.ok T)) : readT L = .ok T := by
  rw [said_one] at h
  split at h
  · injection h
  · cases h
theorem readT_eq {L : List Nat} {y : Nat} (h : readT L = .error y) : y ≠ 0 := readT_err h
/-- The row of one extension, and what it says, in any world from V on. -/
def OneX (V : World) (A : Option Addr) (i : List Nat) (cr : Bool) (L : List Nat) : Prop := ∃ e : Ex, e.v = ⟨i, cr, L⟩ ∧ Off [] (XP A 1 [e]) V
def errK (i q : List Nat) (r : Except Nat Tr) (x : Bool) : Prop := ∀ y, r = .error y → x = !decide (i = q)
section
variable {V : World} {A : Option Addr} {i : List Nat} {cr : Bool} {L : List Nat}
theorem one_sz {e : Ex} (h : e.v = ⟨i, cr, L⟩) (hi : i.length ≤ 12000) (hl : L.length ≤ 12000) : ∀ x ∈ [e], x.id.length ≤ 12000 ∧ x.val.length ≤ 12000 := fun x hx => by
  rw [List.mem_singleton.1 hx]
  have h1 : e.id = i := congrArg EV.id h
  have h2 : e.val = L := congrArg EV.val h
  rw [h1, h2]; exact ⟨hi, hl⟩
theorem says_basic (h : OneX V A i cr L) (hi : i.length ≤ 12000) (hl : L.length ≤ 12000) (ho : ∀ x ∈ L, x < 256) : ∀ W, Below V.heap.size V W → Calls Tryd.prog 4 #[.slice A 1 1] W fun e w' => ∃ (a0 : Bool) (a1 : Int) (x : Bool), e = .returned (.tuple #[.agg #[.bool a0, .int .i64 a1], .bool x]) ∧ Hid (errK i [85, 29, 19] (readT L) x) ∧ Below W.heap.size W w' := by
  intro W hW
  obtain ⟨e, he, hx⟩ := h
  have h := basicS_any W A 1 1 [e] (hx.under hW).at_ rfl (one_sz he hi hl) (fun T hT => by rw [List.map_singleton, he] at hT; have := (fit_read ho hl (said_ok hT)).1; omega)
  rw [List.map_singleton, he] at h
  refine h.mono fun e w' hp => ?_
  obtain ⟨h1, h2⟩ := hp.one
  refine ⟨_, _, _, h1, Lib.hid fun y hy => ?_, h2⟩
  rw [said_one, hy]
  by_cases hq : i = [85, 29, 19]
  · simp [hq, basS]
  · simp [hq, basS]
theorem says_usage (h : OneX V A i cr L) (hi : i.length ≤ 12000) (hl : L.length ≤ 12000) (ho : ∀ x ∈ L, x < 256) : ∀ W, Below V.heap.size V W → Calls Tryd.prog 5 #[.slice A 1 1] W fun e w' => ∃ (u : Int) (s x : Bool), e = .returned (.tuple #[.int .u8 u, .bool s, .bool x]) ∧ Hid (errK i [85, 29, 15] (readT L) x) ∧ Below W.heap.size W w' := by
  intro W hW
  obtain ⟨e, he, hx⟩ := h
  have h := usageS_any W A 1 1 [e] (hx.under hW).at_ rfl (one_sz he hi hl) (fun T hT => by rw [List.map_singleton, he] at hT; exact (fit_read ho hl (said_ok hT)).2.1)
  rw [List.map_singleton, he] at h
  refine h.mono fun e w' hp => ?_
  obtain ⟨h1, h2⟩ := hp
  refine ⟨_, _, _, h1, Lib.hid fun y hy => ?_, h2⟩
  rw [said_one, hy]
  by_cases hq : i = [85, 29, 15]
  · simp [hq, useS]
  · simp [hq, useS]
theorem says_uses (h : OneX V A i cr L) (hi : i.length ≤ 12000) (hl : L.length ≤ 12000) (ho : ∀ x ∈ L, x < 256) : ∀ W, Below V.heap.size V W → Calls Tryd.prog 6 #[.slice A 1 1] W fun e w' => ∃ (B : Option Addr) (n c : Nat) (s x : Bool), e = .returned (.tuple #[.slice B n c, .bool s, .bool x]) ∧ Hid (errK i [85, 29, 37] (readT L) x) ∧ Below W.heap.size W w' := by
  intro W hW
  obtain ⟨e, he, hx⟩ := h
  have h := uses_any W A 1 1 [e] (hx.under hW).at_ rfl (one_sz he hi hl) (fun T hT => by rw [List.map_singleton, he] at hT; have := (fit_read ho hl (said_ok hT)).1; omega)
  rw [List.map_singleton, he] at h
  refine h.mono fun e w' hp => ?_
  have hs : saidOf [⟨i, cr, L⟩] [85, 29, 37] = if i = [85, 29, 37] then some (readT L) else none := said_one
  by_cases hq : i = [85, 29, 37]
  · rw [hs, if_pos hq] at hp
    rcases hr : readT L with y | T
    · rw [hr] at hp
      obtain ⟨rfl, hb⟩ := hp
      exact ⟨_, _, _, _, _, rfl, Lib.hid fun y hy => by simp [hq], hb⟩
    · rw [hr] at hp
      obtain ⟨hu, rfl, hb⟩ | ⟨A2, c2, l2, rfl, hi, hu, hb⟩ := hp
      · exact ⟨_, _, _, _, _, rfl, Lib.hid fun y hy => (by cases hy), hb⟩
      · exact ⟨_, _, _, _, _, rfl, Lib.hid fun y hy => (by cases hy), hb⟩
  · rw [hs, if_neg hq] at hp
    obtain ⟨rfl, hb⟩ := hp
    exact ⟨_, _, _, _, _, rfl, Lib.hid fun y hy => by simp [hq], hb⟩
theorem says_only (hT : Lib.Utf8Tabs 1 2 V) (h : OneX V A i cr L) (hi : i.length ≤ 12000) (hl : L.length ≤ 12000) (ho : ∀ x ∈ L, x < 256) : ∀ W, Below V.heap.size V W → Calls Tryd.prog 7 #[.slice A 1 1] W fun e w' => ∃ (B : Option Addr) (n c : Nat) (s x : Bool), e = .returned (.tuple #[.slice B n c, .bool s, .bool x]) ∧ Hid (errK i [85, 29, 30] (readT L) x) ∧ Below W.heap.size W w' := by
  intro W hW
  obtain ⟨e, he, hx⟩ := h
  have h := only_any W A 1 1 [e] (Utf8Tabs_below hT hW) (hx.under hW).at_ rfl (one_sz he hi hl) (fun T hT => by rw [List.map_singleton, he] at hT; have := fit_read ho hl (said_ok hT); exact ⟨by omega, this.2.2⟩)
  rw [List.map_singleton, he] at h
  refine h.mono fun e w' hp => ?_
  obtain ⟨B, n, c, s, x, rfl, hx, hb⟩ := hp
  refine ⟨B, n, c, s, x, rfl, Lib.hid fun y hy => ?_, hb⟩
  rw [said_one, hy] at hx
  by_cases hq : i = [85, 29, 30]
  · rw [if_pos hq] at hx
    rw [hx.out.2 y rfl]; simp [hq]
  · rw [if_neg hq] at hx
    rw [hx.out.1 rfl]; simp [hq]
theorem says_odd (h : OneX V A i cr L) : ∀ W, Below V.heap.size V W → Calls Tryd.prog 8 #[.slice A 1 1] W fun e w' => e = .returned (.bool (cr && !known6 i)) ∧ Below W.heap.size W w' := by
  intro W hW
  obtain ⟨e, he, hx⟩ := h
  have h := odd_any W A 1 1 [e] (hx.under hW).at_ rfl
  rw [List.map_singleton, he] at h
  rwa [show oddS [⟨i, cr, L⟩] = (cr && !known6 i) by simp [oddS]] at h
end
theorem one_new (w : World) (x : Nat) (hx : x < 256) (xi : Int) (hxi : xi = (x : Int)) (cr : Bool) (A : Option Addr) (c n : Nat) (L : List Nat) (hr : Rd .u8 w w.heap.size A c L) (hn : L.length = n) (ho : ∀ y ∈ L, y < 256) :
    OneX ((w.alloc (.cells #[.int .u8 85, .int .u8 29, .int .u8 xi] 5)).alloc (.cells #[.slice (some ⟨w.heap.size, 0, none⟩) 3 3, .bool cr, .slice A n c] 24)) (some ⟨w.heap.size + 1, 0, none⟩) [85, 29, x] cr L := by
  have hs1 : (w.alloc (.cells #[.int .u8 85, .int .u8 29, .int .u8 xi] 5)).heap.size = w.heap.size + 1 := by simp
  have hq1 : Below w.heap.size w (w.alloc (.cells #[.int .u8 85, .int .u8 29, .int .u8 xi] 5)) := (Below.refl _ _).alloc (Nat.le_refl _) _
  have o1 := Off.of_rd (rd_three w 85 29 x 85 29 xi rfl rfl hxi) (by rw [hs1]; exact Nat.le_refl _)
  have o2 := Off.of_rd (hr.under hq1) hq1.size
  have hx4 : Off [] (ExP ⟨some ⟨w.heap.size, 0, none⟩, 3, [85, 29, x], cr, A, c, L⟩) (w.alloc (.cells #[.int .u8 85, .int .u8 29, .int .u8 xi] 5)) :=
    fun w' h2 h3 => ⟨o1 w' h2 h3, oct_three (by omega) (by omega) hx, o2 w' h2 h3, ho⟩
  have hxp := xp_one hx4
  rw [hs1] at hxp
  subst hn
  exact ⟨_, rfl, hxp⟩
end Go.Proofs.YtbdkopcmdefhoaaDoor
namespace Go.Proofs.YtbdkopcmdefhoaaDoor
open Go.RowKit
set_option linter.unusedVariables false
set_option linter.unusedSimpArgs false
attribute [local go_sem ↓] Go.wp_at_zero Go.wp_at_succ

set_option maxRecDepth 100000 in
set_option maxHeartbeats 8000000 in
theorem law_oddX_19 (w : World) (hT : Lib.Utf8Tabs 1 2 w) (cr : Bool) (A : Option Addr) (c n : Nat) (L : List Nat) (hR : Rd .u8 w w.heap.size A c L) (hn : L.length = n) (ho : ∀ y ∈ L, y < 256) (h100 : n ≤ 100) :
    Calls Tryd.prog 3 #[.int .u8 19, .bool cr, .slice A n c] w fun e w' => e = .returned (.bool true) ∧ Below w.heap.size w w' := by
  have d100 : decide ((100 : Int) < (n : Int)) = false := decide_eq_false (by omega)
  have h1 := one_new w 19 (by omega) 19 rfl cr A c n L hR hn ho
  have hl : L.length ≤ 12000 := by omega
  have hi : ([85, 29, 19] : List Nat).length ≤ 12000 := by simp
  have hb : Below w.heap.size w ((w.alloc (.cells #[.int .u8 85, .int .u8 29, .int .u8 19] 5)).alloc (.cells #[.slice (some ⟨w.heap.size, 0, none⟩) 3 3, .bool cr, .slice A n c] 24)) := ((Below.refl _ _).alloc (Nat.le_refl _) _).alloc (by simp) _
  have HB := Lib.hid hb
  have HBA := Lib.hid (says_basic h1 hi hl ho)
  have HUS := Lib.hid (says_usage h1 hi hl ho)
  have HUE := Lib.hid (says_uses h1 hi hl ho)
  have HON := Lib.hid (says_only (Utf8Tabs_below hT hb) h1 hi hl ho)
  have HOD := says_odd h1
  rw [show known6 [85, 29, 19] = true by decide] at HOD
  have HOD := Lib.hid HOD
  have HRD := Lib.hid (fun (W : World) (hW : Below w.heap.size w W) => read'_any W _ A c n L (hR.under hW) hn ho hW.size)
  have e19 : (!decide (([85, 29, 19] : List Nat) = [85, 29, 19])) = false := (by decide)
  have e15 : (!decide (([85, 29, 19] : List Nat) = [85, 29, 15])) = true := (by decide)
  have e37 : (!decide (([85, 29, 19] : List Nat) = [85, 29, 37])) = true := (by decide)
  have e30 : (!decide (([85, 29, 19] : List Nat) = [85, 29, 30])) = true := (by decide)
  simp only [errK, e19] at HBA
  simp only [errK, e15] at HUS
  simp only [errK, e37] at HUE
  simp only [errK, e30] at HON
  clear h1 hl hi hb hT hR hn ho h100 e19 e15 e37 e30
  obtain ⟨V, hV⟩ : ∃ V, V = (w.alloc (.cells #[.int .u8 85, .int .u8 29, .int .u8 19] 5)).alloc (.cells #[.slice (some ⟨w.heap.size, 0, none⟩) 3 3, .bool cr, .slice A n c] 24) := ⟨_, rfl⟩
  rw [← hV] at HB HBA HUS HUE HON HOD
  have HV := Lib.hid hV
  clear hV
  go_enter Tryd.func3, Tryd.ntmps3
  go_wp2_with fail
  rw [← HV.out]
  refine (HBA.out V (Below.refl _ _)).mono ?_
  rintro e w1 ⟨a0, a1, xa, rfl, HA, hb1⟩
  have hq1 : Below w1.heap.size w1 (w1.alloc (.cells #[.bool a0, .int .i64 a1] 27)) := (Below.refl _ _).alloc (Nat.le_refl _) _
  have HB1 := Lib.hid (hb1.trans (hq1.mono hb1.size))
  clear hb1 hq1 HV
  go_wp2_with fail
  refine (HUS.out _ HB1.out).mono ?_
  rintro e w2 ⟨u2, s2, xb, rfl, HBX, hb2⟩
  have HB2 := Lib.hid (HB1.out.trans (hb2.mono HB1.out.size))
  clear hb2
  go_wp2_with fail
  refine (HUE.out _ HB2.out).mono ?_
  rintro e w3 ⟨p3, n3, c3, s3, xc, rfl, HC, hb3⟩
  have HB3 := Lib.hid (HB2.out.trans (hb3.mono HB2.out.size))
  clear hb3
  go_wp2_with fail
  refine (HON.out _ HB3.out).mono ?_
  rintro e w4 ⟨p4, n4, c4, s4, xd, rfl, HD, hb4⟩
  have HB4 := Lib.hid (HB3.out.trans (hb4.mono HB3.out.size))
  clear hb4
  cases cr
  all_goals
    go_wp2_with (first | (refine (HOD.out _ HB4.out).mono ?_; rintro e w5 ⟨rfl, hb5⟩; have HB5 := Lib.hid (HB4.out.trans (hb5.mono HB4.out.size)); clear hb5))
    rcases hrt : readT L with y | T
    · have h0 := readT_eq hrt
      have bne : ((y : Int) != 0) = true := by simp; omega
      obtain rfl := HA.out y hrt
      obtain rfl := HBX.out y hrt
      obtain rfl := HC.out y hrt
      obtain rfl := HD.out y hrt
      have hrd := HRD.out w5 (HB.out.trans (HB5.out.mono HB.out.size))
      rw [hrt] at hrd
      clear hrt
      refine hrd.mono ?_
      rintro e w6 ⟨rfl, hb6⟩
      simp only [noNode]
      have HB6 : Hid (Below w.heap.size w (w6.alloc (.cells #[.int .u8 0, .slice none 0 0, .slice none 0 0] 41))) := Lib.hid (by
        have h := HB.out.trans ((HB5.out.trans (hb6.mono HB5.out.size)).mono HB.out.size)
        exact h.alloc h.size _)
      clear hb6 hrd
      go_wp2_with fail
      refine (known17_any _).mono ?_
      rintro e w7 ⟨rfl, hb7⟩
      have HF := Lib.hid (HB6.out.trans (hb7.mono HB6.out.size))
      clear hb7
      go_wp2_with fail
      go_ret
      exact ⟨rfl, HF.out⟩
    · have hrd := HRD.out w5 (HB.out.trans (HB5.out.mono HB.out.size))
      rw [hrt] at hrd
      clear hrt HA HBX HC HD
      refine hrd.mono ?_
      rintro e w6 ⟨lt, rfl, hlt, hat, hb6⟩
      have HVAL : Hid (lt.val = .agg #[.int .u8 (lt.tag : Int), .slice lt.ba lt.body.length lt.bc, .slice lt.ka lt.kids.length lt.kc]) := Lib.hid rfl
      rw [HVAL.out]
      have HB6 : Hid (Below w.heap.size w (w6.alloc (.cells #[.int .u8 (lt.tag : Int), .slice lt.ba lt.body.length lt.bc, .slice lt.ka lt.kids.length lt.kc] 41))) := Lib.hid (by
        have h := HB.out.trans ((HB5.out.trans (hb6.mono HB5.out.size)).mono HB.out.size)
        exact h.alloc h.size _)
      clear hb6 hrd hlt hat HVAL
      generalize lt.tag = lg at *
      generalize lt.ba = lba at *
      generalize lt.bc = lbc at *
      generalize lt.body.length = lbl at *
      generalize lt.ka = lka at *
      generalize lt.kids.length = lkn at *
      generalize lt.kc = lkc at *
      go_wp2_with fail
      refine (known17_any _).mono ?_
      rintro e w7 ⟨rfl, hb7⟩
      have HF := Lib.hid (HB6.out.trans (hb7.mono HB6.out.size))
      clear hb7
      go_wp2_with fail
      go_ret
      exact ⟨rfl, HF.out⟩
end Go.Proofs.YtbdkopcmdefhoaaDoor
namespace Go.Proofs.YtbdkopcmdefhoaaDoor
open Go.RowKit
set_option linter.unusedVariables false
set_option linter.unusedSimpArgs false
attribute [local go_sem ↓] Go.wp_at_zero Go.wp_at_succ

set_option maxRecDepth 100000 in
set_option maxHeartbeats 8000000 in
theorem law_oddX_15 (w : World) (hT : Lib.Utf8Tabs 1 2 w) (cr : Bool) (A : Option Addr) (c n : Nat) (L : List Nat) (hR : Rd .u8 w w.heap.size A c L) (hn : L.length = n) (ho : ∀ y ∈ L, y < 256) (h100 : n ≤ 100) :
    Calls Tryd.prog 3 #[.int .u8 15, .bool cr, .slice A n c] w fun e w' => e = .returned (.bool true) ∧ Below w.heap.size w w' := by
  have d100 : decide ((100 : Int) < (n : Int)) = false := decide_eq_false (by omega)
  have h1 := one_new w 15 (by omega) 15 rfl cr A c n L hR hn ho
  have hl : L.length ≤ 12000 := by omega
  have hi : ([85, 29, 15] : List Nat).length ≤ 12000 := by simp
  have hb : Below w.heap.size w ((w.alloc (.cells #[.int .u8 85, .int .u8 29, .int .u8 15] 5)).alloc (.cells #[.slice (some ⟨w.heap.size, 0, none⟩) 3 3, .bool cr, .slice A n c] 24)) := ((Below.refl _ _).alloc (Nat.le_refl _) _).alloc (by simp) _
  have HB := Lib.hid hb
  have HBA := Lib.hid (says_basic h1 hi hl ho)
  have HUS := Lib.hid (says_usage h1 hi hl ho)
  have HUE := Lib.hid (says_uses h1 hi hl ho)
  have HON := Lib.hid (says_only (Utf8Tabs_below hT hb) h1 hi hl ho)
  have HOD := says_odd h1
  rw [show known6 [85, 29, 15] = true by decide] at HOD
  have HOD := Lib.hid HOD
  have HRD := Lib.hid (fun (W : World) (hW : Below w.heap.size w W) => read'_any W _ A c n L (hR.under hW) hn ho hW.size)
  have e19 : (!decide (([85, 29, 15] : List Nat) = [85, 29, 19])) = true := (by decide)
  have e15 : (!decide (([85, 29, 15] : List Nat) = [85, 29, 15])) = false := (by decide)
  have e37 : (!decide (([85, 29, 15] : List Nat) = [85, 29, 37])) = true := (by decide)
  have e30 : (!decide (([85, 29, 15] : List Nat) = [85, 29, 30])) = true := (by decide)
  simp only [errK, e19] at HBA
  simp only [errK, e15] at HUS
  simp only [errK, e37] at HUE
  simp only [errK, e30] at HON
  clear h1 hl hi hb hT hR hn ho h100 e19 e15 e37 e30
  obtain ⟨V, hV⟩ : ∃ V, V = (w.alloc (.cells #[.int .u8 85, .int .u8 29, .int .u8 15] 5)).alloc (.cells #[.slice (some ⟨w.heap.size, 0, none⟩) 3 3, .bool cr, .slice A n c] 24) := ⟨_, rfl⟩
  rw [← hV] at HB HBA HUS HUE HON HOD
  have HV := Lib.hid hV
  clear hV
  go_enter Tryd.func3, Tryd.ntmps3
  go_wp2_with fail
  rw [← HV.out]
  refine (HBA.out V (Below.refl _ _)).mono ?_
  rintro e w1 ⟨a0, a1, xa, rfl, HA, hb1⟩
  have hq1 : Below w1.heap.size w1 (w1.alloc (.cells #[.bool a0, .int .i64 a1] 27)) := (Below.refl _ _).alloc (Nat.le_refl _) _
  have HB1 := Lib.hid (hb1.trans (hq1.mono hb1.size))
  clear hb1 hq1 HV
  go_wp2_with fail
  refine (HUS.out _ HB1.out).mono ?_
  rintro e w2 ⟨u2, s2, xb, rfl, HBX, hb2⟩
  have HB2 := Lib.hid (HB1.out.trans (hb2.mono HB1.out.size))
  clear hb2
  go_wp2_with fail
  refine (HUE.out _ HB2.out).mono ?_
  rintro e w3 ⟨p3, n3, c3, s3, xc, rfl, HC, hb3⟩
  have HB3 := Lib.hid (HB2.out.trans (hb3.mono HB2.out.size))
  clear hb3
  go_wp2_with fail
  refine (HON.out _ HB3.out).mono ?_
  rintro e w4 ⟨p4, n4, c4, s4, xd, rfl, HD, hb4⟩
  have HB4 := Lib.hid (HB3.out.trans (hb4.mono HB3.out.size))
  clear hb4
  cases cr
  all_goals
    go_wp2_with (first | (refine (HOD.out _ HB4.out).mono ?_; rintro e w5 ⟨rfl, hb5⟩; have HB5 := Lib.hid (HB4.out.trans (hb5.mono HB4.out.size)); clear hb5))
    rcases hrt : readT L with y | T
    · have h0 := readT_eq hrt
      have bne : ((y : Int) != 0) = true := by simp; omega
      obtain rfl := HA.out y hrt
      obtain rfl := HBX.out y hrt
      obtain rfl := HC.out y hrt
      obtain rfl := HD.out y hrt
      have hrd := HRD.out w5 (HB.out.trans (HB5.out.mono HB.out.size))
      rw [hrt] at hrd
      clear hrt
      refine hrd.mono ?_
      rintro e w6 ⟨rfl, hb6⟩
      simp only [noNode]
      have HB6 : Hid (Below w.heap.size w (w6.alloc (.cells #[.int .u8 0, .slice none 0 0, .slice none 0 0] 41))) := Lib.hid (by
        have h := HB.out.trans ((HB5.out.trans (hb6.mono HB5.out.size)).mono HB.out.size)
        exact h.alloc h.size _)
      clear hb6 hrd
      go_wp2_with fail
      refine (known17_any _).mono ?_
      rintro e w7 ⟨rfl, hb7⟩
      have HF := Lib.hid (HB6.out.trans (hb7.mono HB6.out.size))
      clear hb7
      go_wp2_with fail
      go_ret
      exact ⟨rfl, HF.out⟩
    · have hrd := HRD.out w5 (HB.out.trans (HB5.out.mono HB.out.size))
      rw [hrt] at hrd
      clear hrt HA HBX HC HD
      refine hrd.mono ?_
      rintro e w6 ⟨lt, rfl, hlt, hat, hb6⟩
      have HVAL : Hid (lt.val = .agg #[.int .u8 (lt.tag : Int), .slice lt.ba lt.body.length lt.bc, .slice lt.ka lt.kids.length lt.kc]) := Lib.hid rfl
      rw [HVAL.out]
      have HB6 : Hid (Below w.heap.size w (w6.alloc (.cells #[.int .u8 (lt.tag : Int), .slice lt.ba lt.body.length lt.bc, .slice lt.ka lt.kids.length lt.kc] 41))) := Lib.hid (by
        have h := HB.out.trans ((HB5.out.trans (hb6.mono HB5.out.size)).mono HB.out.size)
        exact h.alloc h.size _)
      clear hb6 hrd hlt hat HVAL
      generalize lt.tag = lg at *
      generalize lt.ba = lba at *
      generalize lt.bc = lbc at *
      generalize lt.body.length = lbl at *
      generalize lt.ka = lka at *
      generalize lt.kids.length = lkn at *
      generalize lt.kc = lkc at *
      go_wp2_with fail
      refine (known17_any _).mono ?_
      rintro e w7 ⟨rfl, hb7⟩
      have HF := Lib.hid (HB6.out.trans (hb7.mono HB6.out.size))
      clear hb7
      go_wp2_with fail
      go_ret
      exact ⟨rfl, HF.out⟩
set_option maxRecDepth 100000 in
set_option maxHeartbeats 8000000 in
theorem law_oddX_37 (w : World) (hT : Lib.Utf8Tabs 1 2 w) (cr : Bool) (A : Option Addr) (c n : Nat) (L : List Nat) (hR : Rd .u8 w w.heap.size A c L) (hn : L.length = n) (ho : ∀ y ∈ L, y < 256) (h100 : n ≤ 100) :
    Calls Tryd.prog 3 #[.int .u8 37, .bool cr, .slice A n c] w fun e w' => e = .returned (.bool true) ∧ Below w.heap.size w w' := by
  have d100 : decide ((100 : Int) < (n : Int)) = false := decide_eq_false (by omega)
  have h1 := one_new w 37 (by omega) 37 rfl cr A c n L hR hn ho
  have hl : L.length ≤ 12000 := by omega
  have hi : ([85, 29, 37] : List Nat).length ≤ 12000 := by simp
  have hb : Below w.heap.size w ((w.alloc (.cells #[.int .u8 85, .int .u8 29, .int .u8 37] 5)).alloc (.cells #[.slice (some ⟨w.heap.size, 0, none⟩) 3 3, .bool cr, .slice A n c] 24)) := ((Below.refl _ _).alloc (Nat.le_refl _) _).alloc (by simp) _
  have HB := Lib.hid hb
  have HBA := Lib.hid (says_basic h1 hi hl ho)
  have HUS := Lib.hid (says_usage h1 hi hl ho)
  have HUE := Lib.hid (says_uses h1 hi hl ho)
  have HON := Lib.hid (says_only (Utf8Tabs_below hT hb) h1 hi hl ho)
  have HOD := says_odd h1
  rw [show known6 [85, 29, 37] = true by decide] at HOD
  have HOD := Lib.hid HOD
  have HRD := Lib.hid (fun (W : World) (hW : Below w.heap.size w W) => read'_any W _ A c n L (hR.under hW) hn ho hW.size)
  have e19 : (!decide (([85, 29, 37] : List Nat) = [85, 29, 19])) = true := (by decide)
  have e15 : (!decide (([85, 29, 37] : List Nat) = [85, 29, 15])) = true := (by decide)
  have e37 : (!decide (([85, 29, 37] : List Nat) = [85, 29, 37])) = false := (by decide)
  have e30 : (!decide (([85, 29, 37] : List Nat) = [85, 29, 30])) = true := (by decide)
  simp only [errK, e19] at HBA
  simp only [errK, e15] at HUS
  simp only [errK, e37] at HUE
  simp only [errK, e30] at HON
  clear h1 hl hi hb hT hR hn ho h100 e19 e15 e37 e30
  obtain ⟨V, hV⟩ : ∃ V, V = (w.alloc (.cells #[.int .u8 85, .int .u8 29, .int .u8 37] 5)).alloc (.cells #[.slice (some ⟨w.heap.size, 0, none⟩) 3 3, .bool cr, .slice A n c] 24) := ⟨_, rfl⟩
  rw [← hV] at HB HBA HUS HUE HON HOD
  have HV := Lib.hid hV
  clear hV
  go_enter Tryd.func3, Tryd.ntmps3
  go_wp2_with fail
  rw [← HV.out]
  refine (HBA.out V (Below.refl _ _)).mono ?_
  rintro e w1 ⟨a0, a1, xa, rfl, HA, hb1⟩
  have hq1 : Below w1.heap.size w1 (w1.alloc (.cells #[.bool a0, .int .i64 a1] 27)) := (Below.refl _ _).alloc (Nat.le_refl _) _
  have HB1 := Lib.hid (hb1.trans (hq1.mono hb1.size))
  clear hb1 hq1 HV
  go_wp2_with fail
  refine (HUS.out _ HB1.out).mono ?_
  rintro e w2 ⟨u2, s2, xb, rfl, HBX, hb2⟩
  have HB2 := Lib.hid (HB1.out.trans (hb2.mono HB1.out.size))
  clear hb2
  go_wp2_with fail
  refine (HUE.out _ HB2.out).mono ?_
  rintro e w3 ⟨p3, n3, c3, s3, xc, rfl, HC, hb3⟩
  have HB3 := Lib.hid (HB2.out.trans (hb3.mono HB2.out.size))
  clear hb3
  go_wp2_with fail
  refine (HON.out _ HB3.out).mono ?_
  rintro e w4 ⟨p4, n4, c4, s4, xd, rfl, HD, hb4⟩
  have HB4 := Lib.hid (HB3.out.trans (hb4.mono HB3.out.size))
  clear hb4
  cases cr
  all_goals
    go_wp2_with (first | (refine (HOD.out _ HB4.out).mono ?_; rintro e w5 ⟨rfl, hb5⟩; have HB5 := Lib.hid (HB4.out.trans (hb5.mono HB4.out.size)); clear hb5))
    rcases hrt : readT L with y | T
    · have h0 := readT_eq hrt
      have bne : ((y : Int) != 0) = true := by simp; omega
      obtain rfl := HA.out y hrt
      obtain rfl := HBX.out y hrt
      obtain rfl := HC.out y hrt
      obtain rfl := HD.out y hrt
      have hrd := HRD.out w5 (HB.out.trans (HB5.out.mono HB.out.size))
      rw [hrt] at hrd
      clear hrt
      refine hrd.mono ?_
      rintro e w6 ⟨rfl, hb6⟩
      simp only [noNode]
      have HB6 : Hid (Below w.heap.size w (w6.alloc (.cells #[.int .u8 0, .slice none 0 0, .slice none 0 0] 41))) := Lib.hid (by
        have h := HB.out.trans ((HB5.out.trans (hb6.mono HB5.out.size)).mono HB.out.size)
        exact h.alloc h.size _)
      clear hb6 hrd
      go_wp2_with fail
      refine (known17_any _).mono ?_
      rintro e w7 ⟨rfl, hb7⟩
      have HF := Lib.hid (HB6.out.trans (hb7.mono HB6.out.size))
      clear hb7
      go_wp2_with fail
      go_ret
      exact ⟨rfl, HF.out⟩
    · have hrd := HRD.out w5 (HB.out.trans (HB5.out.mono HB.out.size))
      rw [hrt] at hrd
      clear hrt HA HBX HC HD
      refine hrd.mono ?_
      rintro e w6 ⟨lt, rfl, hlt, hat, hb6⟩
      have HVAL : Hid (lt.val = .agg #[.int .u8 (lt.tag : Int), .slice lt.ba lt.body.length lt.bc, .slice lt.ka lt.kids.length lt.kc]) := Lib.hid rfl
      rw [HVAL.out]
      have HB6 : Hid (Below w.heap.size w (w6.alloc (.cells #[.int .u8 (lt.tag : Int), .slice lt.ba lt.body.length lt.bc, .slice lt.ka lt.kids.length lt.kc] 41))) := Lib.hid (by
        have h := HB.out.trans ((HB5.out.trans (hb6.mono HB5.out.size)).mono HB.out.size)
        exact h.alloc h.size _)
      clear hb6 hrd hlt hat HVAL
      generalize lt.tag = lg at *
      generalize lt.ba = lba at *
      generalize lt.bc = lbc at *
      generalize lt.body.length = lbl at *
      generalize lt.ka = lka at *
      generalize lt.kids.length = lkn at *
      generalize lt.kc = lkc at *
      go_wp2_with fail
      refine (known17_any _).mono ?_
      rintro e w7 ⟨rfl, hb7⟩
      have HF := Lib.hid (HB6.out.trans (hb7.mono HB6.out.size))
      clear hb7
      go_wp2_with fail
      go_ret
      exact ⟨rfl, HF.out⟩
set_option maxRecDepth 100000 in
set_option maxHeartbeats 8000000 in
theorem law_oddX_30 (w : World) (hT : Lib.Utf8Tabs 1 2 w) (cr : Bool) (A : Option Addr) (c n : Nat) (L : List Nat) (hR : Rd .u8 w w.heap.size A c L) (hn : L.length = n) (ho : ∀ y ∈ L, y < 256) (h100 : n ≤ 100) :
    Calls Tryd.prog 3 #[.int .u8 30, .bool cr, .slice A n c] w fun e w' => e = .returned (.bool true) ∧ Below w.heap.size w w' := by
  have d100 : decide ((100 : Int) < (n : Int)) = false := decide_eq_false (by omega)
  have h1 := one_new w 30 (by omega) 30 rfl cr A c n L hR hn ho
  have hl : L.length ≤ 12000 := by omega
  have hi : ([85, 29, 30] : List Nat).length ≤ 12000 := by simp
  have hb : Below w.heap.size w ((w.alloc (.cells #[.int .u8 85, .int .u8 29, .int .u8 30] 5)).alloc (.cells #[.slice (some ⟨w.heap.size, 0, none⟩) 3 3, .bool cr, .slice A n c] 24)) := ((Below.refl _ _).alloc (Nat.le_refl _) _).alloc (by simp) _
  have HB := Lib.hid hb
  have HBA := Lib.hid (says_basic h1 hi hl ho)
  have HUS := Lib.hid (says_usage h1 hi hl ho)
  have HUE := Lib.hid (says_uses h1 hi hl ho)
  have HON := Lib.hid (says_only (Utf8Tabs_below hT hb) h1 hi hl ho)
  have HOD := says_odd h1
  rw [show known6 [85, 29, 30] = true by decide] at HOD
  have HOD := Lib.hid HOD
  have HRD := Lib.hid (fun (W : World) (hW : Below w.heap.size w W) => read'_any W _ A c n L (hR.under hW) hn ho hW.size)
  have e19 : (!decide (([85, 29, 30] : List Nat) = [85, 29, 19])) = true := (by decide)
  have e15 : (!decide (([85, 29, 30] : List Nat) = [85, 29, 15])) = true := (by decide)
  have e37 : (!decide (([85, 29, 30] : List Nat) = [85, 29, 37])) = true := (by decide)
  have e30 : (!decide (([85, 29, 30] : List Nat) = [85, 29, 30])) = false := (by decide)
  simp only [errK, e19] at HBA
  simp only [errK, e15] at HUS
  simp only [errK, e37] at HUE
  simp only [errK, e30] at HON
  clear h1 hl hi hb hT hR hn ho h100 e19 e15 e37 e30
  obtain ⟨V, hV⟩ : ∃ V, V = (w.alloc (.cells #[.int .u8 85, .int .u8 29, .int .u8 30] 5)).alloc (.cells #[.slice (some ⟨w.heap.size, 0, none⟩) 3 3, .bool cr, .slice A n c] 24) := ⟨_, rfl⟩
  rw [← hV] at HB HBA HUS HUE HON HOD
  have HV := Lib.hid hV
  clear hV
  go_enter Tryd.func3, Tryd.ntmps3
  go_wp2_with fail
  rw [← HV.out]
  refine (HBA.out V (Below.refl _ _)).mono ?_
  rintro e w1 ⟨a0, a1, xa, rfl, HA, hb1⟩
  have hq1 : Below w1.heap.size w1 (w1.alloc (.cells #[.bool a0, .int .i64 a1] 27)) := (Below.refl _ _).alloc (Nat.le_refl _) _
  have HB1 := Lib.hid (hb1.trans (hq1.mono hb1.size))
  clear hb1 hq1 HV
  go_wp2_with fail
  refine (HUS.out _ HB1.out).mono ?_
  rintro e w2 ⟨u2, s2, xb, rfl, HBX, hb2⟩
  have HB2 := Lib.hid (HB1.out.trans (hb2.mono HB1.out.size))
  clear hb2
  go_wp2_with fail
  refine (HUE.out _ HB2.out).mono ?_
  rintro e w3 ⟨p3, n3, c3, s3, xc, rfl, HC, hb3⟩
  have HB3 := Lib.hid (HB2.out.trans (hb3.mono HB2.out.size))
  clear hb3
  go_wp2_with fail
  refine (HON.out _ HB3.out).mono ?_
  rintro e w4 ⟨p4, n4, c4, s4, xd, rfl, HD, hb4⟩
  have HB4 := Lib.hid (HB3.out.trans (hb4.mono HB3.out.size))
  clear hb4
  cases cr
  all_goals
    go_wp2_with (first | (refine (HOD.out _ HB4.out).mono ?_; rintro e w5 ⟨rfl, hb5⟩; have HB5 := Lib.hid (HB4.out.trans (hb5.mono HB4.out.size)); clear hb5))
    rcases hrt : readT L with y | T
    · have h0 := readT_eq hrt
      have bne : ((y : Int) != 0) = true := by simp; omega
      obtain rfl := HA.out y hrt
      obtain rfl := HBX.out y hrt
      obtain rfl := HC.out y hrt
      obtain rfl := HD.out y hrt
      have hrd := HRD.out w5 (HB.out.trans (HB5.out.mono HB.out.size))
      rw [hrt] at hrd
      clear hrt
      refine hrd.mono ?_
      rintro e w6 ⟨rfl, hb6⟩
      simp only [noNode]
      have HB6 : Hid (Below w.heap.size w (w6.alloc (.cells #[.int .u8 0, .slice none 0 0, .slice none 0 0] 41))) := Lib.hid (by
        have h := HB.out.trans ((HB5.out.trans (hb6.mono HB5.out.size)).mono HB.out.size)
        exact h.alloc h.size _)
      clear hb6 hrd
      go_wp2_with fail
      refine (known17_any _).mono ?_
      rintro e w7 ⟨rfl, hb7⟩
      have HF := Lib.hid (HB6.out.trans (hb7.mono HB6.out.size))
      clear hb7
      go_wp2_with fail
      go_ret
      exact ⟨rfl, HF.out⟩
    · have hrd := HRD.out w5 (HB.out.trans (HB5.out.mono HB.out.size))
      rw [hrt] at hrd
      clear hrt HA HBX HC HD
      refine hrd.mono ?_
      rintro e w6 ⟨lt, rfl, hlt, hat, hb6⟩
      have HVAL : Hid (lt.val = .agg #[.int .u8 (lt.tag : Int), .slice lt.ba lt.body.length lt.bc, .slice lt.ka lt.kids.length lt.kc]) := Lib.hid rfl
      rw [HVAL.out]
      have HB6 : Hid (Below w.heap.size w (w6.alloc (.cells #[.int .u8 (lt.tag : Int), .slice lt.ba lt.body.length lt.bc, .slice lt.ka lt.kids.length lt.kc] 41))) := Lib.hid (by
        have h := HB.out.trans ((HB5.out.trans (hb6.mono HB5.out.size)).mono HB.out.size)
        exact h.alloc h.size _)
      clear hb6 hrd hlt hat HVAL
      generalize lt.tag = lg at *
      generalize lt.ba = lba at *
      generalize lt.bc = lbc at *
      generalize lt.body.length = lbl at *
      generalize lt.ka = lka at *
      generalize lt.kids.length = lkn at *
      generalize lt.kc = lkc at *
      go_wp2_with fail
      refine (known17_any _).mono ?_
      rintro e w7 ⟨rfl, hb7⟩
      have HF := Lib.hid (HB6.out.trans (hb7.mono HB6.out.size))
      clear hb7
      go_wp2_with fail
      go_ret
      exact ⟨rfl, HF.out⟩
set_option maxRecDepth 100000 in
set_option maxHeartbeats 8000000 in
theorem law_oddX_14 (w : World) (hT : Lib.Utf8Tabs 1 2 w) (cr : Bool) (A : Option Addr) (c n : Nat) (L : List Nat) (hR : Rd .u8 w w.heap.size A c L) (hn : L.length = n) (ho : ∀ y ∈ L, y < 256) (h100 : n ≤ 100) :
    Calls Tryd.prog 3 #[.int .u8 14, .bool cr, .slice A n c] w fun e w' => e = .returned (.bool true) ∧ Below w.heap.size w w' := by
  have d100 : decide ((100 : Int) < (n : Int)) = false := decide_eq_false (by omega)
  have h1 := one_new w 14 (by omega) 14 rfl cr A c n L hR hn ho
  have hl : L.length ≤ 12000 := by omega
  have hi : ([85, 29, 14] : List Nat).length ≤ 12000 := by simp
  have hb : Below w.heap.size w ((w.alloc (.cells #[.int .u8 85, .int .u8 29, .int .u8 14] 5)).alloc (.cells #[.slice (some ⟨w.heap.size, 0, none⟩) 3 3, .bool cr, .slice A n c] 24)) := ((Below.refl _ _).alloc (Nat.le_refl _) _).alloc (by simp) _
  have HB := Lib.hid hb
  have HBA := Lib.hid (says_basic h1 hi hl ho)
  have HUS := Lib.hid (says_usage h1 hi hl ho)
  have HUE := Lib.hid (says_uses h1 hi hl ho)
  have HON := Lib.hid (says_only (Utf8Tabs_below hT hb) h1 hi hl ho)
  have HOD := says_odd h1
  rw [show known6 [85, 29, 14] = true by decide] at HOD
  have HOD := Lib.hid HOD
  have HRD := Lib.hid (fun (W : World) (hW : Below w.heap.size w W) => read'_any W _ A c n L (hR.under hW) hn ho hW.size)
  have e19 : (!decide (([85, 29, 14] : List Nat) = [85, 29, 19])) = true := (by decide)
  have e15 : (!decide (([85, 29, 14] : List Nat) = [85, 29, 15])) = true := (by decide)
  have e37 : (!decide (([85, 29, 14] : List Nat) = [85, 29, 37])) = true := (by decide)
  have e30 : (!decide (([85, 29, 14] : List Nat) = [85, 29, 30])) = true := (by decide)
  simp only [errK, e19] at HBA
  simp only [errK, e15] at HUS
  simp only [errK, e37] at HUE
  simp only [errK, e30] at HON
  clear h1 hl hi hb hT hR hn ho h100 e19 e15 e37 e30
  obtain ⟨V, hV⟩ : ∃ V, V = (w.alloc (.cells #[.int .u8 85, .int .u8 29, .int .u8 14] 5)).alloc (.cells #[.slice (some ⟨w.heap.size, 0, none⟩) 3 3, .bool cr, .slice A n c] 24) := ⟨_, rfl⟩
  rw [← hV] at HB HBA HUS HUE HON HOD
  have HV := Lib.hid hV
  clear hV
  go_enter Tryd.func3, Tryd.ntmps3
  go_wp2_with fail
  rw [← HV.out]
  refine (HBA.out V (Below.refl _ _)).mono ?_
  rintro e w1 ⟨a0, a1, xa, rfl, HA, hb1⟩
  have hq1 : Below w1.heap.size w1 (w1.alloc (.cells #[.bool a0, .int .i64 a1] 27)) := (Below.refl _ _).alloc (Nat.le_refl _) _
  have HB1 := Lib.hid (hb1.trans (hq1.mono hb1.size))
  clear hb1 hq1 HV
  go_wp2_with fail
  refine (HUS.out _ HB1.out).mono ?_
  rintro e w2 ⟨u2, s2, xb, rfl, HBX, hb2⟩
  have HB2 := Lib.hid (HB1.out.trans (hb2.mono HB1.out.size))
  clear hb2
  go_wp2_with fail
  refine (HUE.out _ HB2.out).mono ?_
  rintro e w3 ⟨p3, n3, c3, s3, xc, rfl, HC, hb3⟩
  have HB3 := Lib.hid (HB2.out.trans (hb3.mono HB2.out.size))
  clear hb3
  go_wp2_with fail
  refine (HON.out _ HB3.out).mono ?_
  rintro e w4 ⟨p4, n4, c4, s4, xd, rfl, HD, hb4⟩
  have HB4 := Lib.hid (HB3.out.trans (hb4.mono HB3.out.size))
  clear hb4
  cases cr
  all_goals
    go_wp2_with (first | (refine (HOD.out _ HB4.out).mono ?_; rintro e w5 ⟨rfl, hb5⟩; have HB5 := Lib.hid (HB4.out.trans (hb5.mono HB4.out.size)); clear hb5))
    rcases hrt : readT L with y | T
    · have h0 := readT_eq hrt
      have bne : ((y : Int) != 0) = true := by simp; omega
      obtain rfl := HA.out y hrt
      obtain rfl := HBX.out y hrt
      obtain rfl := HC.out y hrt
      obtain rfl := HD.out y hrt
      have hrd := HRD.out w5 (HB.out.trans (HB5.out.mono HB.out.size))
      rw [hrt] at hrd
      clear hrt
      refine hrd.mono ?_
      rintro e w6 ⟨rfl, hb6⟩
      simp only [noNode]
      have HB6 : Hid (Below w.heap.size w (w6.alloc (.cells #[.int .u8 0, .slice none 0 0, .slice none 0 0] 41))) := Lib.hid (by
        have h := HB.out.trans ((HB5.out.trans (hb6.mono HB5.out.size)).mono HB.out.size)
        exact h.alloc h.size _)
      clear hb6 hrd
      go_wp2_with fail
      refine (known17_any _).mono ?_
      rintro e w7 ⟨rfl, hb7⟩
      have HF := Lib.hid (HB6.out.trans (hb7.mono HB6.out.size))
      clear hb7
      go_wp2_with fail
      go_ret
      exact ⟨rfl, HF.out⟩
    · have hrd := HRD.out w5 (HB.out.trans (HB5.out.mono HB.out.size))
      rw [hrt] at hrd
      clear hrt HA HBX HC HD
      refine hrd.mono ?_
      rintro e w6 ⟨lt, rfl, hlt, hat, hb6⟩
      have HVAL : Hid (lt.val = .agg #[.int .u8 (lt.tag : Int), .slice lt.ba lt.body.length lt.bc, .slice lt.ka lt.kids.length lt.kc]) := Lib.hid rfl
      rw [HVAL.out]
      have HB6 : Hid (Below w.heap.size w (w6.alloc (.cells #[.int .u8 (lt.tag : Int), .slice lt.ba lt.body.length lt.bc, .slice lt.ka lt.kids.length lt.kc] 41))) := Lib.hid (by
        have h := HB.out.trans ((HB5.out.trans (hb6.mono HB5.out.size)).mono HB.out.size)
        exact h.alloc h.size _)
      clear hb6 hrd hlt hat HVAL
      generalize lt.tag = lg at *
      generalize lt.ba = lba at *
      generalize lt.bc = lbc at *
      generalize lt.body.length = lbl at *
      generalize lt.ka = lka at *
      generalize lt.kids.length = lkn at *
      generalize lt.kc = lkc at *
      go_wp2_with fail
      refine (known17_any _).mono ?_
      rintro e w7 ⟨rfl, hb7⟩
      have HF := Lib.hid (HB6.out.trans (hb7.mono HB6.out.size))
      clear hb7
      go_wp2_with fail
      go_ret
      exact ⟨rfl, HF.out⟩
set_option maxRecDepth 100000 in
set_option maxHeartbeats 8000000 in
theorem law_oddX_35 (w : World) (hT : Lib.Utf8Tabs 1 2 w) (cr : Bool) (A : Option Addr) (c n : Nat) (L : List Nat) (hR : Rd .u8 w w.heap.size A c L) (hn : L.length = n) (ho : ∀ y ∈ L, y < 256) (h100 : n ≤ 100) :
    Calls Tryd.prog 3 #[.int .u8 35, .bool cr, .slice A n c] w fun e w' => e = .returned (.bool true) ∧ Below w.heap.size w w' := by
  have d100 : decide ((100 : Int) < (n : Int)) = false := decide_eq_false (by omega)
  have h1 := one_new w 35 (by omega) 35 rfl cr A c n L hR hn ho
  have hl : L.length ≤ 12000 := by omega
  have hi : ([85, 29, 35] : List Nat).length ≤ 12000 := by simp
  have hb : Below w.heap.size w ((w.alloc (.cells #[.int .u8 85, .int .u8 29, .int .u8 35] 5)).alloc (.cells #[.slice (some ⟨w.heap.size, 0, none⟩) 3 3, .bool cr, .slice A n c] 24)) := ((Below.refl _ _).alloc (Nat.le_refl _) _).alloc (by simp) _
  have HB := Lib.hid hb
  have HBA := Lib.hid (says_basic h1 hi hl ho)
  have HUS := Lib.hid (says_usage h1 hi hl ho)
  have HUE := Lib.hid (says_uses h1 hi hl ho)
  have HON := Lib.hid (says_only (Utf8Tabs_below hT hb) h1 hi hl ho)
  have HOD := says_odd h1
  rw [show known6 [85, 29, 35] = true by decide] at HOD
  have HOD := Lib.hid HOD
  have HRD := Lib.hid (fun (W : World) (hW : Below w.heap.size w W) => read'_any W _ A c n L (hR.under hW) hn ho hW.size)
  have e19 : (!decide (([85, 29, 35] : List Nat) = [85, 29, 19])) = true := (by decide)
  have e15 : (!decide (([85, 29, 35] : List Nat) = [85, 29, 15])) = true := (by decide)
  have e37 : (!decide (([85, 29, 35] : List Nat) = [85, 29, 37])) = true := (by decide)
  have e30 : (!decide (([85, 29, 35] : List Nat) = [85, 29, 30])) = true := (by decide)
  simp only [errK, e19] at HBA
  simp only [errK, e15] at HUS
  simp only [errK, e37] at HUE
  simp only [errK, e30] at HON
  clear h1 hl hi hb hT hR hn ho h100 e19 e15 e37 e30
  obtain ⟨V, hV⟩ : ∃ V, V = (w.alloc (.cells #[.int .u8 85, .int .u8 29, .int .u8 35] 5)).alloc (.cells #[.slice (some ⟨w.heap.size, 0, none⟩) 3 3, .bool cr, .slice A n c] 24) := ⟨_, rfl⟩
  rw [← hV] at HB HBA HUS HUE HON HOD
  have HV := Lib.hid hV
  clear hV
  go_enter Tryd.func3, Tryd.ntmps3
  go_wp2_with fail
  rw [← HV.out]
  refine (HBA.out V (Below.refl _ _)).mono ?_
  rintro e w1 ⟨a0, a1, xa, rfl, HA, hb1⟩
  have hq1 : Below w1.heap.size w1 (w1.alloc (.cells #[.bool a0, .int .i64 a1] 27)) := (Below.refl _ _).alloc (Nat.le_refl _) _
  have HB1 := Lib.hid (hb1.trans (hq1.mono hb1.size))
  clear hb1 hq1 HV
  go_wp2_with fail
  refine (HUS.out _ HB1.out).mono ?_
  rintro e w2 ⟨u2, s2, xb, rfl, HBX, hb2⟩
  have HB2 := Lib.hid (HB1.out.trans (hb2.mono HB1.out.size))
  clear hb2
  go_wp2_with fail
  refine (HUE.out _ HB2.out).mono ?_
  rintro e w3 ⟨p3, n3, c3, s3, xc, rfl, HC, hb3⟩
  have HB3 := Lib.hid (HB2.out.trans (hb3.mono HB2.out.size))
  clear hb3
  go_wp2_with fail
  refine (HON.out _ HB3.out).mono ?_
  rintro e w4 ⟨p4, n4, c4, s4, xd, rfl, HD, hb4⟩
  have HB4 := Lib.hid (HB3.out.trans (hb4.mono HB3.out.size))
  clear hb4
  cases cr
  all_goals
    go_wp2_with (first | (refine (HOD.out _ HB4.out).mono ?_; rintro e w5 ⟨rfl, hb5⟩; have HB5 := Lib.hid (HB4.out.trans (hb5.mono HB4.out.size)); clear hb5))
    rcases hrt : readT L with y | T
    · have h0 := readT_eq hrt
      have bne : ((y : Int) != 0) = true := by simp; omega
      obtain rfl := HA.out y hrt
      obtain rfl := HBX.out y hrt
      obtain rfl := HC.out y hrt
      obtain rfl := HD.out y hrt
      have hrd := HRD.out w5 (HB.out.trans (HB5.out.mono HB.out.size))
      rw [hrt] at hrd
      clear hrt
      refine hrd.mono ?_
      rintro e w6 ⟨rfl, hb6⟩
      simp only [noNode]
      have HB6 : Hid (Below w.heap.size w (w6.alloc (.cells #[.int .u8 0, .slice none 0 0, .slice none 0 0] 41))) := Lib.hid (by
        have h := HB.out.trans ((HB5.out.trans (hb6.mono HB5.out.size)).mono HB.out.size)
        exact h.alloc h.size _)
      clear hb6 hrd
      go_wp2_with fail
      refine (known17_any _).mono ?_
      rintro e w7 ⟨rfl, hb7⟩
      have HF := Lib.hid (HB6.out.trans (hb7.mono HB6.out.size))
      clear hb7
      go_wp2_with fail
      go_ret
      exact ⟨rfl, HF.out⟩
    · have hrd := HRD.out w5 (HB.out.trans (HB5.out.mono HB.out.size))
      rw [hrt] at hrd
      clear hrt HA HBX HC HD
      refine hrd.mono ?_
      rintro e w6 ⟨lt, rfl, hlt, hat, hb6⟩
      have HVAL : Hid (lt.val = .agg #[.int .u8 (lt.tag : Int), .slice lt.ba lt.body.length lt.bc, .slice lt.ka lt.kids.length lt.kc]) := Lib.hid rfl
      rw [HVAL.out]
      have HB6 : Hid (Below w.heap.size w (w6.alloc (.cells #[.int .u8 (lt.tag : Int), .slice lt.ba lt.body.length lt.bc, .slice lt.ka lt.kids.length lt.kc] 41))) := Lib.hid (by
        have h := HB.out.trans ((HB5.out.trans (hb6.mono HB5.out.size)).mono HB.out.size)
        exact h.alloc h.size _)
      clear hb6 hrd hlt hat HVAL
      generalize lt.tag = lg at *
      generalize lt.ba = lba at *
      generalize lt.bc = lbc at *
      generalize lt.body.length = lbl at *
      generalize lt.ka = lka at *
      generalize lt.kids.length = lkn at *
      generalize lt.kc = lkc at *
      go_wp2_with fail
      refine (known17_any _).mono ?_
      rintro e w7 ⟨rfl, hb7⟩
      have HF := Lib.hid (HB6.out.trans (hb7.mono HB6.out.size))
      clear hb7
      go_wp2_with fail
      go_ret
      exact ⟨rfl, HF.out⟩
set_option maxRecDepth 100000 in
set_option maxHeartbeats 8000000 in
theorem law_oddX_rest (w : World) (hT : Lib.Utf8Tabs 1 2 w) (x : Nat) (hx : x < 128) (hne : ∀ z ∈ [19, 15, 37, 30, 14, 35], x ≠ z) (cr : Bool) (A : Option Addr) (c n : Nat) (L : List Nat) (hR : Rd .u8 w w.heap.size A c L) (hn : L.length = n) (ho : ∀ y ∈ L, y < 256) (h100 : n ≤ 100) :
    Calls Tryd.prog 3 #[.int .u8 (x : Int), .bool cr, .slice A n c] w fun e w' => e = .returned (.bool true) ∧ Below w.heap.size w w' := by
  have d100 : decide ((100 : Int) < (n : Int)) = false := decide_eq_false (by omega)
  have d19 : ((x : Int) == 19) = false := by have := hne 19 (by simp); rw [beq_eq_false_iff_ne]; omega
  have g19 : ((x : Int) != 19) = true := by have := hne 19 (by simp); simp; omega
  have d15 : ((x : Int) == 15) = false := by have := hne 15 (by simp); rw [beq_eq_false_iff_ne]; omega
  have g15 : ((x : Int) != 15) = true := by have := hne 15 (by simp); simp; omega
  have d37 : ((x : Int) == 37) = false := by have := hne 37 (by simp); rw [beq_eq_false_iff_ne]; omega
  have g37 : ((x : Int) != 37) = true := by have := hne 37 (by simp); simp; omega
  have d30 : ((x : Int) == 30) = false := by have := hne 30 (by simp); rw [beq_eq_false_iff_ne]; omega
  have g30 : ((x : Int) != 30) = true := by have := hne 30 (by simp); simp; omega
  have d14 : ((x : Int) == 14) = false := by have := hne 14 (by simp); rw [beq_eq_false_iff_ne]; omega
  have d35 : ((x : Int) == 35) = false := by have := hne 35 (by simp); rw [beq_eq_false_iff_ne]; omega
  have d128 : decide ((128 : Int) ≤ (x : Int)) = false := decide_eq_false (by omega)
  have h1 := one_new w x (by omega) (x : Int) rfl cr A c n L hR hn ho
  have hl : L.length ≤ 12000 := by omega
  have hi : ([85, 29, x] : List Nat).length ≤ 12000 := by simp
  have hb : Below w.heap.size w ((w.alloc (.cells #[.int .u8 85, .int .u8 29, .int .u8 (x : Int)] 5)).alloc (.cells #[.slice (some ⟨w.heap.size, 0, none⟩) 3 3, .bool cr, .slice A n c] 24)) := ((Below.refl _ _).alloc (Nat.le_refl _) _).alloc (by simp) _
  have HB := Lib.hid hb
  have HBA := Lib.hid (says_basic h1 hi hl ho)
  have HUS := Lib.hid (says_usage h1 hi hl ho)
  have HUE := Lib.hid (says_uses h1 hi hl ho)
  have HON := Lib.hid (says_only (Utf8Tabs_below hT hb) h1 hi hl ho)
  have HOD := says_odd h1
  rw [show known6 [85, 29, x] = false by simp [known6, hne 19 (by simp), hne 15 (by simp), hne 37 (by simp), hne 30 (by simp), hne 14 (by simp), hne 35 (by simp)]] at HOD
  have HOD := Lib.hid HOD
  have HRD := Lib.hid (fun (W : World) (hW : Below w.heap.size w W) => read'_any W _ A c n L (hR.under hW) hn ho hW.size)
  have e19 : (!decide (([85, 29, x] : List Nat) = [85, 29, 19])) = true := (by have := hne 19 (by simp); simp [this])
  have e15 : (!decide (([85, 29, x] : List Nat) = [85, 29, 15])) = true := (by have := hne 15 (by simp); simp [this])
  have e37 : (!decide (([85, 29, x] : List Nat) = [85, 29, 37])) = true := (by have := hne 37 (by simp); simp [this])
  have e30 : (!decide (([85, 29, x] : List Nat) = [85, 29, 30])) = true := (by have := hne 30 (by simp); simp [this])
  simp only [errK, e19] at HBA
  simp only [errK, e15] at HUS
  simp only [errK, e37] at HUE
  simp only [errK, e30] at HON
  clear h1 hl hi hb hT hR hn ho h100 e19 e15 e37 e30 hne
  obtain ⟨V, hV⟩ : ∃ V, V = (w.alloc (.cells #[.int .u8 85, .int .u8 29, .int .u8 (x : Int)] 5)).alloc (.cells #[.slice (some ⟨w.heap.size, 0, none⟩) 3 3, .bool cr, .slice A n c] 24) := ⟨_, rfl⟩
  rw [← hV] at HB HBA HUS HUE HON HOD
  have HV := Lib.hid hV
  clear hV
  go_enter Tryd.func3, Tryd.ntmps3
  go_wp2_with fail
  rw [← HV.out]
  refine (HBA.out V (Below.refl _ _)).mono ?_
  rintro e w1 ⟨a0, a1, xa, rfl, HA, hb1⟩
  have hq1 : Below w1.heap.size w1 (w1.alloc (.cells #[.bool a0, .int .i64 a1] 27)) := (Below.refl _ _).alloc (Nat.le_refl _) _
  have HB1 := Lib.hid (hb1.trans (hq1.mono hb1.size))
  clear hb1 hq1 HV
  go_wp2_with fail
  refine (HUS.out _ HB1.out).mono ?_
  rintro e w2 ⟨u2, s2, xb, rfl, HBX, hb2⟩
  have HB2 := Lib.hid (HB1.out.trans (hb2.mono HB1.out.size))
  clear hb2
  go_wp2_with fail
  refine (HUE.out _ HB2.out).mono ?_
  rintro e w3 ⟨p3, n3, c3, s3, xc, rfl, HC, hb3⟩
  have HB3 := Lib.hid (HB2.out.trans (hb3.mono HB2.out.size))
  clear hb3
  go_wp2_with fail
  refine (HON.out _ HB3.out).mono ?_
  rintro e w4 ⟨p4, n4, c4, s4, xd, rfl, HD, hb4⟩
  have HB4 := Lib.hid (HB3.out.trans (hb4.mono HB3.out.size))
  clear hb4
  cases cr
  all_goals
    go_wp2_with (first | (refine (HOD.out _ HB4.out).mono ?_; rintro e w5 ⟨rfl, hb5⟩; have HB5 := Lib.hid (HB4.out.trans (hb5.mono HB4.out.size)); clear hb5))
    rcases hrt : readT L with y | T
    · have h0 := readT_eq hrt
      have bne : ((y : Int) != 0) = true := by simp; omega
      obtain rfl := HA.out y hrt
      obtain rfl := HBX.out y hrt
      obtain rfl := HC.out y hrt
      obtain rfl := HD.out y hrt
      have hrd := HRD.out w5 (HB.out.trans (HB5.out.mono HB.out.size))
      rw [hrt] at hrd
      clear hrt
      refine hrd.mono ?_
      rintro e w6 ⟨rfl, hb6⟩
      simp only [noNode]
      have HB6 : Hid (Below w.heap.size w (w6.alloc (.cells #[.int .u8 0, .slice none 0 0, .slice none 0 0] 41))) := Lib.hid (by
        have h := HB.out.trans ((HB5.out.trans (hb6.mono HB5.out.size)).mono HB.out.size)
        exact h.alloc h.size _)
      clear hb6 hrd
      go_wp2_with fail
      refine (known17_any _).mono ?_
      rintro e w7 ⟨rfl, hb7⟩
      have HF := Lib.hid (HB6.out.trans (hb7.mono HB6.out.size))
      clear hb7
      go_wp2_with fail
      go_ret
      exact ⟨rfl, HF.out⟩
    · have hrd := HRD.out w5 (HB.out.trans (HB5.out.mono HB.out.size))
      rw [hrt] at hrd
      clear hrt HA HBX HC HD
      refine hrd.mono ?_
      rintro e w6 ⟨lt, rfl, hlt, hat, hb6⟩
      have HVAL : Hid (lt.val = .agg #[.int .u8 (lt.tag : Int), .slice lt.ba lt.body.length lt.bc, .slice lt.ka lt.kids.length lt.kc]) := Lib.hid rfl
      rw [HVAL.out]
      have HB6 : Hid (Below w.heap.size w (w6.alloc (.cells #[.int .u8 (lt.tag : Int), .slice lt.ba lt.body.length lt.bc, .slice lt.ka lt.kids.length lt.kc] 41))) := Lib.hid (by
        have h := HB.out.trans ((HB5.out.trans (hb6.mono HB5.out.size)).mono HB.out.size)
        exact h.alloc h.size _)
      clear hb6 hrd hlt hat HVAL
      generalize lt.tag = lg at *
      generalize lt.ba = lba at *
      generalize lt.bc = lbc at *
      generalize lt.body.length = lbl at *
      generalize lt.ka = lka at *
      generalize lt.kids.length = lkn at *
      generalize lt.kc = lkc at *
      go_wp2_with fail
      refine (known17_any _).mono ?_
      rintro e w7 ⟨rfl, hb7⟩
      have HF := Lib.hid (HB6.out.trans (hb7.mono HB6.out.size))
      clear hb7
      go_wp2_with fail
      go_ret
      exact ⟨rfl, HF.out⟩
set_option maxRecDepth 100000 in
set_option maxHeartbeats 4000000 in
theorem law_oddX (w : World) (hT : Lib.Utf8Tabs 1 2 w) (x : Nat) (hx : x < 256) (cr : Bool) (A : Option Addr) (c n : Nat) (L : List Nat) (hR : Rd .u8 w w.heap.size A c L) (hn : L.length = n) (ho : ∀ y ∈ L, y < 256) :
    Calls Tryd.prog 3 #[.int .u8 (x : Int), .bool cr, .slice A n c] w fun e w' => e = .returned (.bool true) ∧ Below w.heap.size w w' := by
  by_cases h100 : 100 < n
  case pos =>
    have d : decide ((100 : Int) < (n : Int)) = true := decide_eq_true (by omega)
    go_enter Tryd.func3, Tryd.ntmps3
    go_wp2_with fail
    go_ret
    exact ⟨rfl, Below.refl _ _⟩
  by_cases h128 : 128 ≤ x
  case pos =>
    have d : decide ((100 : Int) < (n : Int)) = false := decide_eq_false (by omega)
    have d2 : decide ((128 : Int) ≤ (x : Int)) = true := decide_eq_true (by omega)
    go_enter Tryd.func3, Tryd.ntmps3
    go_wp2_with fail
    go_ret
    exact ⟨rfl, Below.refl _ _⟩
  have h : n ≤ 100 := by omega
  by_cases q19 : x = 19
  · rw [q19]; exact law_oddX_19 w hT cr A c n L hR hn ho h
  by_cases q15 : x = 15
  · rw [q15]; exact law_oddX_15 w hT cr A c n L hR hn ho h
  by_cases q37 : x = 37
  · rw [q37]; exact law_oddX_37 w hT cr A c n L hR hn ho h
  by_cases q30 : x = 30
  · rw [q30]; exact law_oddX_30 w hT cr A c n L hR hn ho h
  by_cases q14 : x = 14
  · rw [q14]; exact law_oddX_14 w hT cr A c n L hR hn ho h
  by_cases q35 : x = 35
  · rw [q35]; exact law_oddX_35 w hT cr A c n L hR hn ho h
  exact law_oddX_rest w hT x (by omega) (fun z hz => by simp at hz; omega) cr A c n L hR hn ho h
end Go.Proofs.YtbdkopcmdefhoaaDoor
