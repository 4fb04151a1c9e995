/-
  By how many points there are it goes round.
-/
import Derived.Test.YtflfdglpljodbaaDoorCvF
import Derived.Deep.RegionLaw
import Derived.Deep.RegionHeld3
import Derived.Deep.DrawnRows
namespace Go.Proofs.YtflfdglpljodbaaDoor
open Go.RowKit
set_option linter.unusedVariables false
set_option linter.unusedSimpArgs false

theorem lt_two {k:Nat} (h:k<4294967296):2*k<Luc.cNn:=by
 have h2:(8589934592:Nat)<Luc.cNn:=by decide
 omega
theorem nmul_one (p:Luc.Pt):Luc.nmul p 1=p:=rfl
theorem small_none {m:Nat} (h0:0<m) (h1:m<Luc.cNn):Luc.nmul gP m≠none:=by
 have ho:=gP_order
 have hp:=Luc.cNn_prime
 generalize Luc.cNn=M at *
 intro h
 have hd:¬ M∣m:=fun hd=>by have:=Nat.le_of_dvd h0 hd;omega
 have hf:=Luc.fermat hp hd
 have h2:=hp.1
 have e1:Luc.nmul gP (m ^ (M - 1))=gP:=by rw [←Luc.nmul_mod gP_on ho,hf];rfl
 rw [show M - 1=(M - 2)+1 by omega,Nat.pow_succ,Nat.mul_comm,Luc.nmul_mul gP_on,h,Luc.nmul_none] at e1
 cases e1
theorem some_y {m:Nat} (h0:0<m) (h1:2*m<Luc.cNn):∃ u v,Luc.nmul gP m=some (u,v)∧v≠0:=by
 rcases hq:Luc.nmul gP m with _ | ⟨u,v⟩
 ·exact absurd hq (small_none h0 (by omega))
 ·refine ⟨u,v,rfl,fun hv=>small_none (m:=2*m) (by omega) h1 ?_⟩
  rw [Luc.nmul_two gP_on,hq]
  have e:v+v=0:=by clear hq h0 h1;grind
  exact Luc.add_opp ⟨rfl,e⟩
theorem neg_val {v:Luc.F} (h:v≠0):(-v).val=cP - v.val:=by
 have e:-v=0 - v:=by grind
 have h0:v.val≠0:=fun e=>h (Fin.ext e)
 have hv:v.val<cP:=v.isLt
 rw [e,Fin.sub_def]
 show (cP - v.val+0) % cP=_
 rw [Nat.add_zero]
 exact Nat.mod_eq_of_lt (by omega)
theorem len_m {a m:List Nat} (ha:a.length≤8) (hd:Dg a) (h:NumIs m (val a+val lN)):m.length≤4000:=by
 have h1:=val_lt hd
 have h2:pw a.length≤pw 8:=pw_mono ha
 have h3:val lN<pw 8:=by rw [lN_val];decide
 have h4:pw 9=4294967296*pw 8:=pw_succ 8
 have:=num_len' h (show val a+val lN<pw 9 by omega)
 omega
set_option maxRecDepth 100000 in
set_option maxHeartbeats 8000000 in
theorem law_round (w:World) (hm:CMet w) (A:Option Addr) (ca:Nat) (a:List Nat) (hr0:Rd .u32 w w.heap.size A ca a) (hda:Dg a) (kn:Nat) (hk:kn<4294967296) :
  Calls Tryd.prog 5 #[.slice A a.length ca,.int .u32 (kn:Int)] w fun e w'=>e = .returned (.bool true)∧Below w.heap.size w w':=by
 have hW1:Holds (w.alloc (.cells #[.slice A a.length ca] 24)) w.heap.size 24 #[.slice A a.length ca]:=Holds.fresh _ _ _
 have hb1:Below w.heap.size w (w.alloc (.cells #[.slice A a.length ca] 24)):=(Below.refl _ _).alloc (Nat.le_refl _) _
 obtain ⟨v,hv⟩:∃ v:Bool,v=true↔∀ j,j<1→okN (([⟨A,ca,a⟩]:List It).getD j default).l=true∧(([⟨A,ca,a⟩]:List It).getD j default).l.length≤8:=⟨decide _,decide_eq_true_iff⟩
 have HS:=Lib.hid (such_any (w.alloc (.cells #[.slice A a.length ca] 24)) 8 w.heap.size 1 [⟨A,ca,a⟩] rfl (by omega) (by omega)
  (by
   intro j hj
   have h0:=hW1.cell j
   rcases j with _ | _ | j
   ·exact h0
   ·omega
   ·omega)
  (by
   intro j hj
   rcases j with _ | _ | j
   ·exact (hr0.under hb1).more hb1.size
   ·omega
   ·omega) v hv)
 obtain ⟨W0,hW0⟩:∃ W,W=w.alloc (.cells #[.slice A a.length ca] 24):=⟨_,rfl⟩
 rw [←hW0] at HS hb1
 have HW:=Lib.hid hW0
 have HB0:=Lib.hid hb1
 have HM0:=Lib.hid (hm.under hb1)
 have HV:=Lib.hid hv
 have Rn0:=Lib.hid ((hr0.under hb1).more hb1.size)
 have HDN:=Lib.hid hda
 have HK:=Lib.hid hk
 clear hr0 hda hv hW0 hb1 hW1 hm hk
 go_enter Tryd.func5,Tryd.ntmps5
 go_wp2_with fail
 rw [←HW.out]
 clear HW
 refine HS.out.mono ?_
 rintro e w1 ⟨rfl,rfl⟩
 clear HS
 cases v
 case false =>
  go_wp2_with fail
  go_ret
  exact ⟨rfl,HB0.out⟩
 case true =>
  by_cases hk0:kn=0
  ·subst hk0
   go_wp2_with fail
   go_ret
   exact ⟨rfl,HB0.out⟩
  have tk:((kn:Int) == 0)=false:=by rw [beq_eq_false_iff_ne];omega
  have tk2:decide ((kn:Int)=0)=false:=decide_eq_false (by omega)
  have HK0:Hid (0<kn):=Lib.hid (by omega)
  have h0:=HV.out.1 rfl 0 (by omega)
  have HLN:Hid (a.length≤8):=Lib.hid h0.2
  have HNN:Hid (nrm a):=Lib.hid (okN_nrm h0.1).2
  have HKD:Hid (Dg [kn]):=Lib.hid fun x hx=>by rw [List.mem_singleton.1 hx];exact HK.out
  have HKN:Hid (nrm [kn]):=Lib.hid (.inr (by simpa using hk0))
  clear h0 HV hk0
  go_wp2_with fail
  obtain ⟨W1,hW1⟩:∃ W,W=W0.alloc (.cells #[.int .u32 (kn:Int)] 22):=⟨_,rfl⟩
  rw [←hW1]
  have hb:Below W0.heap.size W0 W1:=by rw [hW1];exact (Below.refl _ _).alloc (Nat.le_refl _) _
  have hrow:Row .u32 22 W1 W0.heap.size [kn]:=by rw [hW1];exact Holds.fresh _ _ _
  have Rk1:=Lib.hid ((rd_whole (c:=1) hrow (by simp) (by omega)).more (Holds.lt hrow))
  have HB1:=Lib.hid (HB0.out.trans (hb.mono HB0.out.size))
  have HM1:=Lib.hid (HM0.out.under hb)
  have Rn1:=Lib.hid ((Rn0.out.under hb).more hb.size)
  clear hb hrow hW1 HB0 HM0 Rn0 tk tk2
  refine (refGP W1).mono ?_
  rintro e W2 ⟨Ag,cg,ag,Bg,dg,bg,ig,rfl,hq,hb⟩
  have HB2:=Lib.hid (HB1.out.trans (hb.mono HB1.out.size))
  have HM2:=Lib.hid (HM1.out.under hb)
  have Rn2:=Lib.hid ((Rn1.out.under hb).more hb.size)
  have Rk2:=Lib.hid ((Rk1.out.under hb).more hb.size)
  clear hb HB1 HM1 Rn1 Rk1
  have Vg2:=Lib.hid hq
  clear hq
  go_wp2_with fail
  refine (timesRP W2 Rk2.out HKD.out (by simp) HKN.out Vg2.out gP_on).mono ?_
  rintro e W3 ⟨Ap,cp,ap,Bp,dp,bp,ip,rfl,hq,hb⟩
  have HB3:=Lib.hid (HB2.out.trans (hb.mono HB2.out.size))
  have HM3:=Lib.hid (HM2.out.under hb)
  have Rn3:=Lib.hid ((Rn2.out.under hb).more hb.size)
  have Rk3:=Lib.hid ((Rk2.out.under hb).more hb.size)
  have Vg3:=Lib.hid (Vg2.out.under hb)
  clear hb HB2 HM2 Rn2 Rk2 Vg2
  have Vp3:=Lib.hid hq
  clear hq
  clear Vg3 Rk3
  obtain ⟨u,v,hQ,hv⟩:=some_y (m:=kn) HK0.out (lt_two HK.out)
  have hkv:val [kn]=kn:=by simp [val]
  have hmq:Mul (Luc.nmul gP kn):=⟨kn,rfl⟩
  rw [hQ] at hmq
  have HQ:=Lib.hid (show Luc.nmul gP (val [kn])=some (u,v) by rw [hkv];exact hQ)
  have HMQ:=Lib.hid hmq
  have HV0:=Lib.hid hv
  have Vp2:=Vp3.out
  rw [HQ.out] at Vp2
  have Vp3_:=Lib.hid Vp2
  have hip:ip=false:=Vp2.inf
  subst hip
  have HON:=Lib.hid (show Luc.OnC (some (u,v)) from hmq.on)
  clear hQ hv hkv hmq Vp2
  clear Vp3
  have Vp3:=Vp3_
  clear Vp3_
  go_wp2_with fail
  obtain ⟨W4,hW⟩:∃ W,W=W3.alloc (.cells #[.slice Ap ap.length cp,.slice Bp bp.length dp,.bool false] 26):=⟨_,rfl⟩
  obtain ⟨s,hs⟩:∃ s,s=W3.heap.size:=⟨_,rfl⟩
  rw [←hW,←hs]
  have hb:Below W3.heap.size W3 W4:=by rw [hW];exact (Below.refl _ _).alloc (Nat.le_refl _) _
  have SB4:Hid (Holds W4 s 26 #[.slice Ap ap.length cp,.slice Bp bp.length dp,.bool false]):=Lib.hid (by rw [hW,hs];exact Holds.fresh _ _ _)
  have HB4:=Lib.hid (HB3.out.trans (hb.mono HB3.out.size))
  have HM4:=Lib.hid (HM3.out.under hb)
  have Rn4:=Lib.hid ((Rn3.out.under hb).more hb.size)
  have Vp4:=Lib.hid (Vp3.out.under hb)
  clear hb HB3 HM3 Rn3 Vp3
  clear hW hs
  refine (refN_any W4).mono ?_
  rintro e W5 ⟨gn,hgn,rfl,hN,hb⟩
  have HB5:=Lib.hid (HB4.out.trans (hb.mono HB4.out.size))
  have HM5:=Lib.hid (HM4.out.under hb)
  have Rn5:=Lib.hid ((Rn4.out.under hb).more hb.size)
  have Vp5:=Lib.hid (Vp4.out.under hb)
  have SB5:=Lib.hid (SB4.out.under hb (Holds.lt SB4.out))
  clear hb HB4 HM4 Rn4 Vp4 SB4
  have HN5:=Lib.hid (Eight.rd hN rfl)
  clear hN hgn
  go_wp2_with fail
  refine (add'_any W5 _ _ _ _ _ _ a lN Rn5.out HN5.out (Nat.le_refl _) (Nat.le_refl _) HDN.out lN_ok.1 (by have:=HLN.out;omega) (by rw [lN_ok.2.2];omega)).mono ?_
  rintro e W6 ⟨Am,cm,m,rfl,hn,hs,hb⟩
  have HB6:=Lib.hid (HB5.out.trans (hb.mono HB5.out.size))
  have HM6:=Lib.hid (HM5.out.under hb)
  have Rn6:=Lib.hid ((Rn5.out.under hb).more hb.size)
  have Vp6:=Lib.hid (Vp5.out.under hb)
  have SB6:=Lib.hid (SB5.out.under hb (Holds.lt SB5.out))
  have HN6:=Lib.hid ((HN5.out.under hb).more hb.size)
  clear hb HB5 HM5 Rn5 Vp5 SB5 HN5
  have Rm6:=Lib.hid (hs.1.more (Nat.le_refl _))
  have HNM:=Lib.hid hn
  clear hn hs
  clear HN6
  go_wp2_with fail
  refine wp_region_noPanic ?_
  refine wp_region_held_drew (S:=fun W=>Holds W s 26 #[.slice Ap ap.length cp,.slice Bp bp.length dp,.bool false]∧True) (by kernel_rfl) (⟨SB6.out,trivial⟩) (fun hHeld=>?_)
  obtain ⟨W7,hV⟩:∃ W,W=W6.drew:=⟨_,rfl⟩
  rw [←hV]
  have hb:Below W6.heap.size W6 W7:=by rw [hV];exact (Below.refl _ W6).drew
  have HB7:=Lib.hid (HB6.out.trans (hb.mono HB6.out.size))
  have HM7:=Lib.hid (HM6.out.under hb)
  have Rn7:=Lib.hid ((Rn6.out.under hb).more hb.size)
  have Vp7:=Lib.hid (Vp6.out.under hb)
  have SB7:=Lib.hid (SB6.out.under hb (Holds.lt SB6.out))
  have Rm7:=Lib.hid ((Rm6.out.under hb).more hb.size)
  clear hb HB6 HM6 Rn6 Vp6 SB6 Rm6
  have HS7:Hid ((fun W=>Holds W s 26 #[.slice Ap ap.length cp,.slice Bp bp.length dp,.bool false]∧True) W7):=Lib.hid ⟨SB7.out,trivial⟩
  replace hHeld:(fun W=>Holds W s 26 #[.slice Ap ap.length cp,.slice Bp bp.length dp,.bool false]∧True) W7:=HS7.out
  clear hV
  refine wpAnyH_take (i:=1) (oi:=⟨some 27,.fieldAddr 26 (.tmp 5) 1,0,_,_,none⟩) (v:=?_) rfl (by kernel_rfl) (by kernel_rfl) (by kernel_rfl) (fun _ _ _ h=>h) (Or.inl ⟨by rfl,?_⟩) hHeld ?_
  rotate_left 1
  ·(intro W hW;(try dsimp only at hW);go_simp;try with_reducible rfl)
  try simp only [Act.put,aI,aZ,aS]
  refine wpAnyH_take (i:=2) (oi:=⟨some 28,.load 24 (.tmp 27),24,_,_,none⟩) (v:=?_) rfl (by kernel_rfl) (by kernel_rfl) (by kernel_rfl) (fun _ _ _ h=>h) (Or.inl ⟨by rfl,?_⟩) hHeld ?_
  rotate_left 1
  ·(intro W hW;have h1:=hW.1.cell 1;(try dsimp only at hW);go_simp;try with_reducible rfl)
  try simp only [Act.put,aI,aZ,aS]
  refine wpAnyH_ready (rs:=[0]) (by kernel_rfl) (by simp) ?_
  refine AllReadyH.cons (o:=⟨some 26,.call ⟨ .value (.func 26),#[],#[]⟩,24,_,_,none⟩) rfl (fun K hK=>?_) AllReadyH.nil
  go_simp
  refine (refP_any W7).mono ?_
  rintro e W8 ⟨gn,hgn,rfl,hN,hb⟩
  have HB8:=Lib.hid (HB7.out.trans (hb.mono HB7.out.size))
  have HM8:=Lib.hid (HM7.out.under hb)
  have Rn8:=Lib.hid ((Rn7.out.under hb).more hb.size)
  have Vp8:=Lib.hid (Vp7.out.under hb)
  have SB8:=Lib.hid (SB7.out.under hb (Holds.lt SB7.out))
  have Rm8:=Lib.hid ((Rm7.out.under hb).more hb.size)
  clear hb HB7 HM7 Rn7 Vp7 SB7 Rm7
  have HN8:=Lib.hid (Eight.rd hN rfl)
  clear hN hgn
  have HS8:Hid ((fun W=>Holds W s 26 #[.slice Ap ap.length cp,.slice Bp bp.length dp,.bool false]∧True) W8):=Lib.hid ⟨SB8.out,trivial⟩
  go_simp
  refine hK.out _ _ (HS8.out) (fun _=>?_)
  clear hK K hHeld
  try simp only [Act.put,aI,aZ,aS]
  have hHeld:(fun W=>Holds W s 26 #[.slice Ap ap.length cp,.slice Bp bp.length dp,.bool false]∧True) W8:=HS8.out
  refine wpAnyH_ready (rs:=[3]) (by kernel_rfl) (by simp) ?_
  refine AllReadyH.cons (o:=⟨some 29,.call ⟨ .value (.func 25),#[.tmp 26,.tmp 28],#[24,24]⟩,39,_,_,none⟩) rfl (fun K hK=>?_) AllReadyH.nil
  go_simp
  refine (sub'_yes W8 _ _ _ _ _ _ lP bp HN8.out Vp8.out.y.rd (Nat.le_refl _) (Nat.le_refl _) lP_ok.1 Vp8.out.y.dg lP_ok.2.1 Vp8.out.y.nrm (by decide) (by have:=Vp8.out.y.le;omega) (by rw [lP_ok.2.2.1,Vp8.out.y.val];have h1:(py (some (u,v))).val<cP:=(py (some (u,v))).isLt;omega)).mono ?_
  rintro e W9 ⟨Ay,cy,y,rfl,hn,hs,hb⟩
  have HB9:=Lib.hid (HB8.out.trans (hb.mono HB8.out.size))
  have HM9:=Lib.hid (HM8.out.under hb)
  have Rn9:=Lib.hid ((Rn8.out.under hb).more hb.size)
  have Vp9:=Lib.hid (Vp8.out.under hb)
  have SB9:=Lib.hid (SB8.out.under hb (Holds.lt SB8.out))
  have Rm9:=Lib.hid ((Rm8.out.under hb).more hb.size)
  have HN9:=Lib.hid ((HN8.out.under hb).more hb.size)
  clear hb HB8 HM8 Rn8 Vp8 SB8 Rm8 HN8
  have hNY:NR W9 Ay cy y (-v):=⟨hs.1.more (Nat.le_refl _),by
   have e:=hn
   rw [lP_ok.2.2.1,Vp9.out.y.val] at e
   rw [neg_val HV0.out]
   exact e⟩
  have Vy9:=Lib.hid hNY
  clear hn hs hNY
  have HS9:Hid ((fun W=>Holds W s 26 #[.slice Ap ap.length cp,.slice Bp bp.length dp,.bool false]∧True) W9):=Lib.hid ⟨SB9.out,trivial⟩
  go_simp
  refine hK.out _ _ (HS9.out) (fun _=>?_)
  clear hK K hHeld
  try simp only [Act.put,aI,aZ,aS]
  have hHeld:(fun W=>Holds W s 26 #[.slice Ap ap.length cp,.slice Bp bp.length dp,.bool false]∧True) W9:=HS9.out
  refine wpAnyH_take (i:=4) (oi:=⟨some 25,.move (.tmp 29),39,_,_,none⟩) (v:=?_) rfl (by kernel_rfl) (by kernel_rfl) (by kernel_rfl) (fun _ _ _ h=>h) (Or.inl ⟨by rfl,?_⟩) hHeld ?_
  rotate_left 1
  ·(intro W hW;(try dsimp only at hW);go_simp;try with_reducible rfl)
  try simp only [Act.put,aI,aZ,aS]
  refine wpAnyH_take (i:=5) (oi:=⟨some 30,.extract (.tmp 25) 0,24,_,_,none⟩) (v:=?_) rfl (by kernel_rfl) (by kernel_rfl) (by kernel_rfl) (fun _ _ _ h=>h) (Or.inl ⟨by rfl,?_⟩) hHeld ?_
  rotate_left 1
  ·(intro W hW;(try dsimp only at hW);go_simp;try with_reducible rfl)
  try simp only [Act.put,aI,aZ,aS]
  refine wpAnyH_take (i:=6) (oi:=⟨some 31,.extract (.tmp 25) 1,4,_,_,none⟩) (v:=?_) rfl (by kernel_rfl) (by kernel_rfl) (by kernel_rfl) (fun _ _ _ h=>h) (Or.inl ⟨by rfl,?_⟩) hHeld ?_
  rotate_left 1
  ·(intro W hW;(try dsimp only at hW);go_simp;try with_reducible rfl)
  try simp only [Act.put,aI,aZ,aS]
  refine wpAnyH_take (i:=7) (oi:=⟨some 7,.assign (.tmp 30),24,_,_,none⟩) (v:=?_) rfl (by kernel_rfl) (by kernel_rfl) (by kernel_rfl) (fun _ _ _ h=>h) (Or.inl ⟨by rfl,?_⟩) hHeld ?_
  rotate_left 1
  ·(intro W hW;(try dsimp only at hW);go_simp;try with_reducible rfl)
  try simp only [Act.put,aI,aZ,aS]
  refine wpAnyH_take (i:=8) (oi:=⟨some 8,.assign (.tmp 31),4,_,_,none⟩) (v:=?_) rfl (by kernel_rfl) (by kernel_rfl) (by kernel_rfl) (fun _ _ _ h=>h) (Or.inl ⟨by rfl,?_⟩) hHeld ?_
  rotate_left 1
  ·(intro W hW;(try dsimp only at hW);go_simp;try with_reducible rfl)
  try simp only [Act.put,aI,aZ,aS]
  refine wpAnyH_done (by kernel_rfl) ?_ _
  refine NoPanic.normal ?_
  clear HN9
  have x0:=SB9.out.cell 0
  go_wp2_with fail
  clear x0
  obtain ⟨W10,hW⟩:∃ W,W=W9.alloc (.cells #[.slice Ap ap.length cp,.slice Ay y.length cy,.bool false] 26):=⟨_,rfl⟩
  obtain ⟨o,hs⟩:∃ s,s=W9.heap.size:=⟨_,rfl⟩
  rw [←hW,←hs]
  have hb:Below W9.heap.size W9 W10:=by rw [hW];exact (Below.refl _ _).alloc (Nat.le_refl _) _
  have OB10:Hid (Holds W10 o 26 #[.slice Ap ap.length cp,.slice Ay y.length cy,.bool false]):=Lib.hid (by rw [hW,hs];exact Holds.fresh _ _ _)
  have HB10:=Lib.hid (HB9.out.trans (hb.mono HB9.out.size))
  have HM10:=Lib.hid (HM9.out.under hb)
  have Rn10:=Lib.hid ((Rn9.out.under hb).more hb.size)
  have Vp10:=Lib.hid (Vp9.out.under hb)
  have SB10:=Lib.hid (SB9.out.under hb (Holds.lt SB9.out))
  have Rm10:=Lib.hid ((Rm9.out.under hb).more hb.size)
  have Vy10:=Lib.hid (Vy9.out.under hb)
  clear hb HB9 HM9 Rn9 Vp9 SB9 Rm9 Vy9
  clear hW hs
  have Vo10:Hid (PtV (Luc.neg (some (u,v))) W10 Ap cp ap Ay cy y false):=Lib.hid ⟨rfl,Vp10.out.x,Vy10.out⟩
  clear Vy10
  refine wp_region_noPanic ?_
  refine wp_region_held_drew (S:=fun W=>Holds W s 26 #[.slice Ap ap.length cp,.slice Bp bp.length dp,.bool false]∧Holds W o 26 #[.slice Ap ap.length cp,.slice Ay y.length cy,.bool false]∧True) (by kernel_rfl) (⟨SB10.out,OB10.out,trivial⟩) (fun hHeld=>?_)
  obtain ⟨W11,hV⟩:∃ W,W=W10.drew:=⟨_,rfl⟩
  rw [←hV]
  have hb:Below W10.heap.size W10 W11:=by rw [hV];exact (Below.refl _ W10).drew
  have HB11:=Lib.hid (HB10.out.trans (hb.mono HB10.out.size))
  have HM11:=Lib.hid (HM10.out.under hb)
  have Rn11:=Lib.hid ((Rn10.out.under hb).more hb.size)
  have Vp11:=Lib.hid (Vp10.out.under hb)
  have SB11:=Lib.hid (SB10.out.under hb (Holds.lt SB10.out))
  have Rm11:=Lib.hid ((Rm10.out.under hb).more hb.size)
  have OB11:=Lib.hid (OB10.out.under hb (Holds.lt OB10.out))
  have Vo11:=Lib.hid (Vo10.out.under hb)
  clear hb HB10 HM10 Rn10 Vp10 SB10 Rm10 OB10 Vo10
  have HS11:Hid ((fun W=>Holds W s 26 #[.slice Ap ap.length cp,.slice Bp bp.length dp,.bool false]∧Holds W o 26 #[.slice Ap ap.length cp,.slice Ay y.length cy,.bool false]∧True) W11):=Lib.hid ⟨SB11.out,OB11.out,trivial⟩
  replace hHeld:(fun W=>Holds W s 26 #[.slice Ap ap.length cp,.slice Bp bp.length dp,.bool false]∧Holds W o 26 #[.slice Ap ap.length cp,.slice Ay y.length cy,.bool false]∧True) W11:=HS11.out
  clear hV
  refine wpAnyH_take (i:=1) (oi:=⟨some 37,.load 26 (.tmp 5),26,_,_,none⟩) (v:=?_) rfl (by kernel_rfl) (by kernel_rfl) (by kernel_rfl) (fun _ _ _ h=>h) (Or.inl ⟨by rfl,?_⟩) hHeld ?_
  rotate_left 1
  ·(intro W hW;have h0:=hW.1.cell 0;have h1:=hW.1.cell 1;have h2:=hW.1.cell 2;(try dsimp only at hW);go_simp;try with_reducible rfl)
  try simp only [Act.put,aI,aZ,aS]
  refine wpAnyH_ready (rs:=[0]) (by kernel_rfl) (by simp) ?_
  refine AllReadyH.cons (o:=⟨some 36,.call ⟨ .value (.func 24),#[],#[]⟩,24,_,_,none⟩) rfl (fun K hK=>?_) AllReadyH.nil
  go_simp
  refine (refN_any W11).mono ?_
  rintro e W12 ⟨gn,hgn,rfl,hN,hb⟩
  have HB12:=Lib.hid (HB11.out.trans (hb.mono HB11.out.size))
  have HM12:=Lib.hid (HM11.out.under hb)
  have Rn12:=Lib.hid ((Rn11.out.under hb).more hb.size)
  have Vp12:=Lib.hid (Vp11.out.under hb)
  have SB12:=Lib.hid (SB11.out.under hb (Holds.lt SB11.out))
  have Rm12:=Lib.hid ((Rm11.out.under hb).more hb.size)
  have OB12:=Lib.hid (OB11.out.under hb (Holds.lt OB11.out))
  have Vo12:=Lib.hid (Vo11.out.under hb)
  clear hb HB11 HM11 Rn11 Vp11 SB11 Rm11 OB11 Vo11
  have HN12:=Lib.hid (Eight.rd hN rfl)
  clear hN hgn
  have HS12:Hid ((fun W=>Holds W s 26 #[.slice Ap ap.length cp,.slice Bp bp.length dp,.bool false]∧Holds W o 26 #[.slice Ap ap.length cp,.slice Ay y.length cy,.bool false]∧True) W12):=Lib.hid ⟨SB12.out,OB12.out,trivial⟩
  go_simp
  refine hK.out _ _ (HS12.out) (fun _=>?_)
  clear hK K hHeld
  try simp only [Act.put,aI,aZ,aS]
  have hHeld:(fun W=>Holds W s 26 #[.slice Ap ap.length cp,.slice Bp bp.length dp,.bool false]∧Holds W o 26 #[.slice Ap ap.length cp,.slice Ay y.length cy,.bool false]∧True) W12:=HS12.out
  refine wpAnyH_ready (rs:=[2]) (by kernel_rfl) (by simp) ?_
  refine AllReadyH.cons (o:=⟨some 38,.call ⟨ .value (.func 22),#[.tmp 36,.tmp 37],#[24,26]⟩,26,_,_,none⟩) rfl (fun K hK=>?_) AllReadyH.nil
  go_simp
  refine (timesP W12 HM12.out HN12.out lN_ok.1 (by decide) Vp12.out HON.out).mono ?_
  rintro e W13 ⟨A1,c1,l1,B1,d1,m1,i1,rfl,hq,hb⟩
  have HB13:=Lib.hid (HB12.out.trans (hb.mono HB12.out.size))
  have HM13:=Lib.hid (HM12.out.under hb)
  have Rn13:=Lib.hid ((Rn12.out.under hb).more hb.size)
  have Vp13:=Lib.hid (Vp12.out.under hb)
  have SB13:=Lib.hid (SB12.out.under hb (Holds.lt SB12.out))
  have Rm13:=Lib.hid ((Rm12.out.under hb).more hb.size)
  have OB13:=Lib.hid (OB12.out.under hb (Holds.lt OB12.out))
  have Vo13:=Lib.hid (Vo12.out.under hb)
  have HN13:=Lib.hid ((HN12.out.under hb).more hb.size)
  clear hb HB12 HM12 Rn12 Vp12 SB12 Rm12 OB12 Vo12 HN12
  rw [Nat.mod_self] at hq
  obtain rfl:i1=true:=hq.inf
  clear hq
  have HS13:Hid ((fun W=>Holds W s 26 #[.slice Ap ap.length cp,.slice Bp bp.length dp,.bool false]∧Holds W o 26 #[.slice Ap ap.length cp,.slice Ay y.length cy,.bool false]∧True) W13):=Lib.hid ⟨SB13.out,OB13.out,trivial⟩
  go_simp
  refine hK.out _ _ (HS13.out) (fun _=>?_)
  clear hK K hHeld
  try simp only [Act.put,aI,aZ,aS]
  have hHeld:(fun W=>Holds W s 26 #[.slice Ap ap.length cp,.slice Bp bp.length dp,.bool false]∧Holds W o 26 #[.slice Ap ap.length cp,.slice Ay y.length cy,.bool false]∧True) W13:=HS13.out
  refine wpAnyH_take (i:=3) (oi:=⟨some 39,.field 26 (.tmp 38) 2,4,_,_,none⟩) (v:=?_) rfl (by kernel_rfl) (by kernel_rfl) (by kernel_rfl) (fun _ _ _ h=>h) (Or.inl ⟨by rfl,?_⟩) hHeld ?_
  rotate_left 1
  ·(intro W hW;have hf:(Instr.field 26 (.agg #[.slice A1 l1.length c1,.slice B1 m1.length d1,.bool true]) 2).run Tryd.prog W = .ok (.bool true) W:=(by kernel_rfl);(try dsimp only at hW);go_simp;try with_reducible rfl)
  try simp only [Act.put,aI,aZ,aS]
  refine wpAnyH_take (i:=4) (oi:=⟨some 40,.move (.tmp 39),4,_,_,none⟩) (v:=?_) rfl (by kernel_rfl) (by kernel_rfl) (by kernel_rfl) (fun _ _ _ h=>h) (Or.inl ⟨by rfl,?_⟩) hHeld ?_
  rotate_left 1
  ·(intro W hW;(try dsimp only at hW);go_simp;try with_reducible rfl)
  try simp only [Act.put,aI,aZ,aS]
  refine wpAnyH_take (i:=5) (oi:=⟨some 41,.move (.tmp 6),24,_,_,some (4,true)⟩) (v:=?_) rfl (by kernel_rfl) (by kernel_rfl) (by kernel_rfl) (fun _ _ _ h=>h) (Or.inl ⟨by rfl,?_⟩) hHeld ?_
  rotate_left 1
  ·(intro W hW;(try dsimp only at hW);go_simp;try with_reducible rfl)
  try simp only [Act.put,aI,aZ,aS]
  refine wpAnyH_take (i:=6) (oi:=⟨some 42,.load 26 (.tmp 5),26,_,_,some (4,true)⟩) (v:=?_) rfl (by kernel_rfl) (by kernel_rfl) (by kernel_rfl) (fun _ _ _ h=>h) (Or.inl ⟨by rfl,?_⟩) hHeld ?_
  rotate_left 1
  ·(intro W hW;have h0:=hW.1.cell 0;have h1:=hW.1.cell 1;have h2:=hW.1.cell 2;(try dsimp only at hW);go_simp;try with_reducible rfl)
  try simp only [Act.put,aI,aZ,aS]
  refine wpAnyH_take (i:=8) (oi:=⟨some 44,.move (.tmp 0),24,_,_,some (4,true)⟩) (v:=?_) rfl (by kernel_rfl) (by kernel_rfl) (by kernel_rfl) (fun _ _ _ h=>h) (Or.inl ⟨by rfl,?_⟩) hHeld ?_
  rotate_left 1
  ·(intro W hW;(try dsimp only at hW);go_simp;try with_reducible rfl)
  try simp only [Act.put,aI,aZ,aS]
  refine wpAnyH_take (i:=9) (oi:=⟨some 45,.load 26 (.tmp 5),26,_,_,some (4,true)⟩) (v:=?_) rfl (by kernel_rfl) (by kernel_rfl) (by kernel_rfl) (fun _ _ _ h=>h) (Or.inl ⟨by rfl,?_⟩) hHeld ?_
  rotate_left 1
  ·(intro W hW;have h0:=hW.1.cell 0;have h1:=hW.1.cell 1;have h2:=hW.1.cell 2;(try dsimp only at hW);go_simp;try with_reducible rfl)
  try simp only [Act.put,aI,aZ,aS]
  refine wpAnyH_ready (rs:=[7]) (by kernel_rfl) (by simp) ?_
  refine AllReadyH.cons (o:=⟨some 43,.call ⟨ .value (.func 22),#[.tmp 41,.tmp 42],#[24,26]⟩,26,_,_,some (4,true)⟩) rfl (fun K hK=>?_) AllReadyH.nil
  go_simp
  refine (timesP W13 HM13.out Rm13.out HNM.out.1 (len_m HLN.out HDN.out HNM.out) Vp13.out HON.out).mono ?_
  rintro e W14 ⟨Aq,cq,aq,Bq,dq,bq,iq,rfl,hq,hb⟩
  have HB14:=Lib.hid (HB13.out.trans (hb.mono HB13.out.size))
  have HM14:=Lib.hid (HM13.out.under hb)
  have Rn14:=Lib.hid ((Rn13.out.under hb).more hb.size)
  have Vp14:=Lib.hid (Vp13.out.under hb)
  have SB14:=Lib.hid (SB13.out.under hb (Holds.lt SB13.out))
  have Rm14:=Lib.hid ((Rm13.out.under hb).more hb.size)
  have OB14:=Lib.hid (OB13.out.under hb (Holds.lt OB13.out))
  have Vo14:=Lib.hid (Vo13.out.under hb)
  have HN14:=Lib.hid ((HN13.out.under hb).more hb.size)
  clear hb HB13 HM13 Rn13 Vp13 SB13 Rm13 OB13 Vo13 HN13
  rw [HMQ.out.mod,HNM.out.2.2] at hq
  have Vq14:=Lib.hid hq
  clear hq
  have HS14:Hid ((fun W=>Holds W s 26 #[.slice Ap ap.length cp,.slice Bp bp.length dp,.bool false]∧Holds W o 26 #[.slice Ap ap.length cp,.slice Ay y.length cy,.bool false]∧True) W14):=Lib.hid ⟨SB14.out,OB14.out,trivial⟩
  go_simp
  refine hK.out _ _ (HS14.out) (fun _=>?_)
  clear hK K hHeld
  try simp only [Act.put,aI,aZ,aS]
  have hHeld:(fun W=>Holds W s 26 #[.slice Ap ap.length cp,.slice Bp bp.length dp,.bool false]∧Holds W o 26 #[.slice Ap ap.length cp,.slice Ay y.length cy,.bool false]∧True) W14:=HS14.out
  refine wpAnyH_ready (rs:=[10]) (by kernel_rfl) (by simp) ?_
  refine AllReadyH.cons (o:=⟨some 46,.call ⟨ .value (.func 22),#[.tmp 44,.tmp 45],#[24,26]⟩,26,_,_,some (4,true)⟩) rfl (fun K hK=>?_) AllReadyH.nil
  go_simp
  refine (timesP W14 HM14.out Rn14.out HDN.out (by have:=HLN.out;omega) Vp14.out HON.out).mono ?_
  rintro e W15 ⟨Ar,cr,ar,Br,dr,br,ir,rfl,hq,hb⟩
  have HB15:=Lib.hid (HB14.out.trans (hb.mono HB14.out.size))
  have HM15:=Lib.hid (HM14.out.under hb)
  have Rn15:=Lib.hid ((Rn14.out.under hb).more hb.size)
  have Vp15:=Lib.hid (Vp14.out.under hb)
  have SB15:=Lib.hid (SB14.out.under hb (Holds.lt SB14.out))
  have Rm15:=Lib.hid ((Rm14.out.under hb).more hb.size)
  have OB15:=Lib.hid (OB14.out.under hb (Holds.lt OB14.out))
  have Vo15:=Lib.hid (Vo14.out.under hb)
  have HN15:=Lib.hid ((HN14.out.under hb).more hb.size)
  have Vq15:=Lib.hid (Vq14.out.under hb)
  clear hb HB14 HM14 Rn14 Vp14 SB14 Rm14 OB14 Vo14 HN14 Vq14
  rw [HMQ.out.mod] at hq
  have e:Luc.nmul (some (u,v)) (val a)=Luc.nmul (some (u,v)) (val a+val lN):=by rw [←HMQ.out.mod (val a),←HMQ.out.mod (val a+val lN),Nat.add_mod_right]
  rw [e] at hq
  have Vr15:=Lib.hid hq
  clear hq e
  have HS15:Hid ((fun W=>Holds W s 26 #[.slice Ap ap.length cp,.slice Bp bp.length dp,.bool false]∧Holds W o 26 #[.slice Ap ap.length cp,.slice Ay y.length cy,.bool false]∧True) W15):=Lib.hid ⟨SB15.out,OB15.out,trivial⟩
  go_simp
  refine hK.out _ _ (HS15.out) (fun _=>?_)
  clear hK K hHeld
  try simp only [Act.put,aI,aZ,aS]
  have hHeld:(fun W=>Holds W s 26 #[.slice Ap ap.length cp,.slice Bp bp.length dp,.bool false]∧Holds W o 26 #[.slice Ap ap.length cp,.slice Ay y.length cy,.bool false]∧True) W15:=HS15.out
  refine wpAnyH_ready (rs:=[11]) (by kernel_rfl) (by simp) ?_
  refine AllReadyH.cons (o:=⟨some 47,.call ⟨ .value (.func 18),#[.tmp 43,.tmp 46],#[26,26]⟩,4,_,_,some (4,true)⟩) rfl (fun K hK=>?_) AllReadyH.nil
  go_simp
  refine (sameP W15 Vq15.out Vr15.out).mono ?_
  rintro e W16 ⟨rfl,hb⟩
  have HB16:=Lib.hid (HB15.out.trans (hb.mono HB15.out.size))
  have HM16:=Lib.hid (HM15.out.under hb)
  have Rn16:=Lib.hid ((Rn15.out.under hb).more hb.size)
  have Vp16:=Lib.hid (Vp15.out.under hb)
  have SB16:=Lib.hid (SB15.out.under hb (Holds.lt SB15.out))
  have Rm16:=Lib.hid ((Rm15.out.under hb).more hb.size)
  have OB16:=Lib.hid (OB15.out.under hb (Holds.lt OB15.out))
  have Vo16:=Lib.hid (Vo15.out.under hb)
  have HN16:=Lib.hid ((HN15.out.under hb).more hb.size)
  have Vq16:=Lib.hid (Vq15.out.under hb)
  have Vr16:=Lib.hid (Vr15.out.under hb)
  clear hb HB15 HM15 Rn15 Vp15 SB15 Rm15 OB15 Vo15 HN15 Vq15 Vr15
  have HS16:Hid ((fun W=>Holds W s 26 #[.slice Ap ap.length cp,.slice Bp bp.length dp,.bool false]∧Holds W o 26 #[.slice Ap ap.length cp,.slice Ay y.length cy,.bool false]∧True) W16):=Lib.hid ⟨SB16.out,OB16.out,trivial⟩
  go_simp
  refine hK.out _ _ (HS16.out) (fun _=>?_)
  clear hK K hHeld
  try simp only [Act.put,aI,aZ,aS]
  have hHeld:(fun W=>Holds W s 26 #[.slice Ap ap.length cp,.slice Bp bp.length dp,.bool false]∧Holds W o 26 #[.slice Ap ap.length cp,.slice Ay y.length cy,.bool false]∧True) W16:=HS16.out
  refine wpAnyH_take (i:=12) (oi:=⟨some 48,.pick (.tmp 40) (.tmp 47) (.const (.bool false)),4,_,_,none⟩) (v:=?_) rfl (by kernel_rfl) (by kernel_rfl) (by kernel_rfl) (fun _ _ _ h=>h) (Or.inl ⟨by rfl,?_⟩) hHeld ?_
  rotate_left 1
  ·(intro W hW;(try dsimp only at hW);go_simp;try with_reducible rfl)
  try simp only [Act.put,aI,aZ,aS]
  refine wpAnyH_take (i:=13) (oi:=⟨some 49,.move (.tmp 48),4,_,_,none⟩) (v:=?_) rfl (by kernel_rfl) (by kernel_rfl) (by kernel_rfl) (fun _ _ _ h=>h) (Or.inl ⟨by rfl,?_⟩) hHeld ?_
  rotate_left 1
  ·(intro W hW;(try dsimp only at hW);go_simp;try with_reducible rfl)
  try simp only [Act.put,aI,aZ,aS]
  refine wpAnyH_take (i:=14) (oi:=⟨some 50,.load 26 (.tmp 9),26,_,_,some (13,true)⟩) (v:=?_) rfl (by kernel_rfl) (by kernel_rfl) (by kernel_rfl) (fun _ _ _ h=>h) (Or.inl ⟨by rfl,?_⟩) hHeld ?_
  rotate_left 1
  ·(intro W hW;have h0:=hW.2.1.cell 0;have h1:=hW.2.1.cell 1;have h2:=hW.2.1.cell 2;(try dsimp only at hW);go_simp;try with_reducible rfl)
  try simp only [Act.put,aI,aZ,aS]
  refine wpAnyH_ready (rs:=[15]) (by kernel_rfl) (by simp) ?_
  refine AllReadyH.cons (o:=⟨some 51,.call ⟨ .value (.func 19),#[.tmp 50],#[26]⟩,4,_,_,some (13,true)⟩) rfl (fun K hK=>?_) AllReadyH.nil
  go_simp
  refine (isP W16 HM16.out Vo16.out (Luc.neg_on HON.out)).mono ?_
  rintro e W17 ⟨rfl,hb⟩
  have HB17:=Lib.hid (HB16.out.trans (hb.mono HB16.out.size))
  have HM17:=Lib.hid (HM16.out.under hb)
  have Rn17:=Lib.hid ((Rn16.out.under hb).more hb.size)
  have Vp17:=Lib.hid (Vp16.out.under hb)
  have SB17:=Lib.hid (SB16.out.under hb (Holds.lt SB16.out))
  have Rm17:=Lib.hid ((Rm16.out.under hb).more hb.size)
  have OB17:=Lib.hid (OB16.out.under hb (Holds.lt OB16.out))
  have Vo17:=Lib.hid (Vo16.out.under hb)
  have HN17:=Lib.hid ((HN16.out.under hb).more hb.size)
  have Vq17:=Lib.hid (Vq16.out.under hb)
  have Vr17:=Lib.hid (Vr16.out.under hb)
  clear hb HB16 HM16 Rn16 Vp16 SB16 Rm16 OB16 Vo16 HN16 Vq16 Vr16
  have HS17:Hid ((fun W=>Holds W s 26 #[.slice Ap ap.length cp,.slice Bp bp.length dp,.bool false]∧Holds W o 26 #[.slice Ap ap.length cp,.slice Ay y.length cy,.bool false]∧True) W17):=Lib.hid ⟨SB17.out,OB17.out,trivial⟩
  go_simp
  refine hK.out _ _ (HS17.out) (fun _=>?_)
  clear hK K hHeld
  try simp only [Act.put,aI,aZ,aS]
  have hHeld:(fun W=>Holds W s 26 #[.slice Ap ap.length cp,.slice Bp bp.length dp,.bool false]∧Holds W o 26 #[.slice Ap ap.length cp,.slice Ay y.length cy,.bool false]∧True) W17:=HS17.out
  refine wpAnyH_take (i:=16) (oi:=⟨some 52,.pick (.tmp 49) (.tmp 51) (.const (.bool false)),4,_,_,none⟩) (v:=?_) rfl (by kernel_rfl) (by kernel_rfl) (by kernel_rfl) (fun _ _ _ h=>h) (Or.inl ⟨by rfl,?_⟩) hHeld ?_
  rotate_left 1
  ·(intro W hW;(try dsimp only at hW);go_simp;try with_reducible rfl)
  try simp only [Act.put,aI,aZ,aS]
  refine wpAnyH_take (i:=17) (oi:=⟨some 53,.move (.tmp 52),4,_,_,none⟩) (v:=?_) rfl (by kernel_rfl) (by kernel_rfl) (by kernel_rfl) (fun _ _ _ h=>h) (Or.inl ⟨by rfl,?_⟩) hHeld ?_
  rotate_left 1
  ·(intro W hW;(try dsimp only at hW);go_simp;try with_reducible rfl)
  try simp only [Act.put,aI,aZ,aS]
  refine wpAnyH_take (i:=18) (oi:=⟨some 54,.load 26 (.tmp 5),26,_,_,some (17,true)⟩) (v:=?_) rfl (by kernel_rfl) (by kernel_rfl) (by kernel_rfl) (fun _ _ _ h=>h) (Or.inl ⟨by rfl,?_⟩) hHeld ?_
  rotate_left 1
  ·(intro W hW;have h0:=hW.1.cell 0;have h1:=hW.1.cell 1;have h2:=hW.1.cell 2;(try dsimp only at hW);go_simp;try with_reducible rfl)
  try simp only [Act.put,aI,aZ,aS]
  refine wpAnyH_take (i:=19) (oi:=⟨some 55,.load 26 (.tmp 9),26,_,_,some (17,true)⟩) (v:=?_) rfl (by kernel_rfl) (by kernel_rfl) (by kernel_rfl) (fun _ _ _ h=>h) (Or.inl ⟨by rfl,?_⟩) hHeld ?_
  rotate_left 1
  ·(intro W hW;have h0:=hW.2.1.cell 0;have h1:=hW.2.1.cell 1;have h2:=hW.2.1.cell 2;(try dsimp only at hW);go_simp;try with_reducible rfl)
  try simp only [Act.put,aI,aZ,aS]
  refine wpAnyH_ready (rs:=[20]) (by kernel_rfl) (by simp) ?_
  refine AllReadyH.cons (o:=⟨some 56,.call ⟨ .value (.func 14),#[.tmp 54,.tmp 55],#[26,26]⟩,26,_,_,some (17,true)⟩) rfl (fun K hK=>?_) AllReadyH.nil
  go_simp
  refine (addP W17 HM17.out Vp17.out Vo17.out HON.out (Luc.neg_on HON.out)).mono ?_
  rintro e W18 ⟨A2,c2,l2,B2,d2,m2,i2,rfl,hq,hb⟩
  have HB18:=Lib.hid (HB17.out.trans (hb.mono HB17.out.size))
  have HM18:=Lib.hid (HM17.out.under hb)
  have Rn18:=Lib.hid ((Rn17.out.under hb).more hb.size)
  have Vp18:=Lib.hid (Vp17.out.under hb)
  have SB18:=Lib.hid (SB17.out.under hb (Holds.lt SB17.out))
  have Rm18:=Lib.hid ((Rm17.out.under hb).more hb.size)
  have OB18:=Lib.hid (OB17.out.under hb (Holds.lt OB17.out))
  have Vo18:=Lib.hid (Vo17.out.under hb)
  have HN18:=Lib.hid ((HN17.out.under hb).more hb.size)
  have Vq18:=Lib.hid (Vq17.out.under hb)
  have Vr18:=Lib.hid (Vr17.out.under hb)
  clear hb HB17 HM17 Rn17 Vp17 SB17 Rm17 OB17 Vo17 HN17 Vq17 Vr17
  rw [Luc.add_neg] at hq
  obtain rfl:i2=true:=hq.inf
  clear hq
  have HS18:Hid ((fun W=>Holds W s 26 #[.slice Ap ap.length cp,.slice Bp bp.length dp,.bool false]∧Holds W o 26 #[.slice Ap ap.length cp,.slice Ay y.length cy,.bool false]∧True) W18):=Lib.hid ⟨SB18.out,OB18.out,trivial⟩
  go_simp
  refine hK.out _ _ (HS18.out) (fun _=>?_)
  clear hK K hHeld
  try simp only [Act.put,aI,aZ,aS]
  have hHeld:(fun W=>Holds W s 26 #[.slice Ap ap.length cp,.slice Bp bp.length dp,.bool false]∧Holds W o 26 #[.slice Ap ap.length cp,.slice Ay y.length cy,.bool false]∧True) W18:=HS18.out
  refine wpAnyH_take (i:=21) (oi:=⟨some 57,.field 26 (.tmp 56) 2,4,_,_,some (17,true)⟩) (v:=?_) rfl (by kernel_rfl) (by kernel_rfl) (by kernel_rfl) (fun _ _ _ h=>h) (Or.inl ⟨by rfl,?_⟩) hHeld ?_
  rotate_left 1
  ·(intro W hW;have hf:(Instr.field 26 (.agg #[.slice A2 l2.length c2,.slice B2 m2.length d2,.bool true]) 2).run Tryd.prog W = .ok (.bool true) W:=(by kernel_rfl);(try dsimp only at hW);go_simp;try with_reducible rfl)
  try simp only [Act.put,aI,aZ,aS]
  refine wpAnyH_take (i:=22) (oi:=⟨some 58,.pick (.tmp 53) (.tmp 57) (.const (.bool false)),4,_,_,none⟩) (v:=?_) rfl (by kernel_rfl) (by kernel_rfl) (by kernel_rfl) (fun _ _ _ h=>h) (Or.inl ⟨by rfl,?_⟩) hHeld ?_
  rotate_left 1
  ·(intro W hW;(try dsimp only at hW);go_simp;try with_reducible rfl)
  try simp only [Act.put,aI,aZ,aS]
  refine wpAnyH_take (i:=23) (oi:=⟨some 59,.move (.tmp 58),4,_,_,none⟩) (v:=?_) rfl (by kernel_rfl) (by kernel_rfl) (by kernel_rfl) (fun _ _ _ h=>h) (Or.inl ⟨by rfl,?_⟩) hHeld ?_
  rotate_left 1
  ·(intro W hW;(try dsimp only at hW);go_simp;try with_reducible rfl)
  try simp only [Act.put,aI,aZ,aS]
  refine wpAnyH_take (i:=24) (oi:=⟨some 60,.load 26 (.tmp 5),26,_,_,some (23,true)⟩) (v:=?_) rfl (by kernel_rfl) (by kernel_rfl) (by kernel_rfl) (fun _ _ _ h=>h) (Or.inl ⟨by rfl,?_⟩) hHeld ?_
  rotate_left 1
  ·(intro W hW;have h0:=hW.1.cell 0;have h1:=hW.1.cell 1;have h2:=hW.1.cell 2;(try dsimp only at hW);go_simp;try with_reducible rfl)
  try simp only [Act.put,aI,aZ,aS]
  refine wpAnyH_take (i:=25) (oi:=⟨some 61,.build 26 #[(2,.const (.bool true))],26,_,_,some (23,true)⟩) (v:=?_) rfl (by kernel_rfl) (by kernel_rfl) (by kernel_rfl) (fun _ _ _ h=>h) (Or.inl ⟨by rfl,?_⟩) hHeld ?_
  rotate_left 1
  ·(intro W hW;(try dsimp only at hW);go_simp;try with_reducible rfl)
  try simp only [Act.put,aI,aZ,aS]
  refine wpAnyH_take (i:=27) (oi:=⟨some 63,.load 26 (.tmp 5),26,_,_,some (23,true)⟩) (v:=?_) rfl (by kernel_rfl) (by kernel_rfl) (by kernel_rfl) (fun _ _ _ h=>h) (Or.inl ⟨by rfl,?_⟩) hHeld ?_
  rotate_left 1
  ·(intro W hW;have h0:=hW.1.cell 0;have h1:=hW.1.cell 1;have h2:=hW.1.cell 2;(try dsimp only at hW);go_simp;try with_reducible rfl)
  try simp only [Act.put,aI,aZ,aS]
  refine wpAnyH_ready (rs:=[26]) (by kernel_rfl) (by simp) ?_
  refine AllReadyH.cons (o:=⟨some 62,.call ⟨ .value (.func 14),#[.tmp 60,.tmp 61],#[26,26]⟩,26,_,_,some (23,true)⟩) rfl (fun K hK=>?_) AllReadyH.nil
  go_simp
  refine (addP W18 HM18.out Vp18.out (PtV.none W18) HON.out trivial).mono ?_
  rintro e W19 ⟨A3,c3,l3,B3,d3,m3,i3,rfl,hq,hb⟩
  have HB19:=Lib.hid (HB18.out.trans (hb.mono HB18.out.size))
  have HM19:=Lib.hid (HM18.out.under hb)
  have Rn19:=Lib.hid ((Rn18.out.under hb).more hb.size)
  have Vp19:=Lib.hid (Vp18.out.under hb)
  have SB19:=Lib.hid (SB18.out.under hb (Holds.lt SB18.out))
  have Rm19:=Lib.hid ((Rm18.out.under hb).more hb.size)
  have OB19:=Lib.hid (OB18.out.under hb (Holds.lt OB18.out))
  have Vo19:=Lib.hid (Vo18.out.under hb)
  have HN19:=Lib.hid ((HN18.out.under hb).more hb.size)
  have Vq19:=Lib.hid (Vq18.out.under hb)
  have Vr19:=Lib.hid (Vr18.out.under hb)
  clear hb HB18 HM18 Rn18 Vp18 SB18 Rm18 OB18 Vo18 HN18 Vq18 Vr18
  rw [Luc.add_none] at hq
  have Vt19:=Lib.hid hq
  clear hq
  have HS19:Hid ((fun W=>Holds W s 26 #[.slice Ap ap.length cp,.slice Bp bp.length dp,.bool false]∧Holds W o 26 #[.slice Ap ap.length cp,.slice Ay y.length cy,.bool false]∧True) W19):=Lib.hid ⟨SB19.out,OB19.out,trivial⟩
  go_simp
  refine hK.out _ _ (HS19.out) (fun _=>?_)
  clear hK K hHeld
  try simp only [Act.put,aI,aZ,aS]
  have hHeld:(fun W=>Holds W s 26 #[.slice Ap ap.length cp,.slice Bp bp.length dp,.bool false]∧Holds W o 26 #[.slice Ap ap.length cp,.slice Ay y.length cy,.bool false]∧True) W19:=HS19.out
  refine wpAnyH_ready (rs:=[28]) (by kernel_rfl) (by simp) ?_
  refine AllReadyH.cons (o:=⟨some 64,.call ⟨ .value (.func 18),#[.tmp 62,.tmp 63],#[26,26]⟩,4,_,_,some (23,true)⟩) rfl (fun K hK=>?_) AllReadyH.nil
  go_simp
  refine (sameP W19 Vt19.out Vp19.out).mono ?_
  rintro e W20 ⟨rfl,hb⟩
  have HB20:=Lib.hid (HB19.out.trans (hb.mono HB19.out.size))
  have HM20:=Lib.hid (HM19.out.under hb)
  have Rn20:=Lib.hid ((Rn19.out.under hb).more hb.size)
  have Vp20:=Lib.hid (Vp19.out.under hb)
  have SB20:=Lib.hid (SB19.out.under hb (Holds.lt SB19.out))
  have Rm20:=Lib.hid ((Rm19.out.under hb).more hb.size)
  have OB20:=Lib.hid (OB19.out.under hb (Holds.lt OB19.out))
  have Vo20:=Lib.hid (Vo19.out.under hb)
  have HN20:=Lib.hid ((HN19.out.under hb).more hb.size)
  have Vq20:=Lib.hid (Vq19.out.under hb)
  have Vr20:=Lib.hid (Vr19.out.under hb)
  have Vt20:=Lib.hid (Vt19.out.under hb)
  clear hb HB19 HM19 Rn19 Vp19 SB19 Rm19 OB19 Vo19 HN19 Vq19 Vr19 Vt19
  have HS20:Hid ((fun W=>Holds W s 26 #[.slice Ap ap.length cp,.slice Bp bp.length dp,.bool false]∧Holds W o 26 #[.slice Ap ap.length cp,.slice Ay y.length cy,.bool false]∧True) W20):=Lib.hid ⟨SB20.out,OB20.out,trivial⟩
  go_simp
  refine hK.out _ _ (HS20.out) (fun _=>?_)
  clear hK K hHeld
  try simp only [Act.put,aI,aZ,aS]
  have hHeld:(fun W=>Holds W s 26 #[.slice Ap ap.length cp,.slice Bp bp.length dp,.bool false]∧Holds W o 26 #[.slice Ap ap.length cp,.slice Ay y.length cy,.bool false]∧True) W20:=HS20.out
  refine wpAnyH_take (i:=29) (oi:=⟨some 65,.pick (.tmp 59) (.tmp 64) (.const (.bool false)),4,_,_,none⟩) (v:=?_) rfl (by kernel_rfl) (by kernel_rfl) (by kernel_rfl) (fun _ _ _ h=>h) (Or.inl ⟨by rfl,?_⟩) hHeld ?_
  rotate_left 1
  ·(intro W hW;(try dsimp only at hW);go_simp;try with_reducible rfl)
  try simp only [Act.put,aI,aZ,aS]
  refine wpAnyH_take (i:=30) (oi:=⟨some 66,.move (.tmp 65),4,_,_,none⟩) (v:=?_) rfl (by kernel_rfl) (by kernel_rfl) (by kernel_rfl) (fun _ _ _ h=>h) (Or.inl ⟨by rfl,?_⟩) hHeld ?_
  rotate_left 1
  ·(intro W hW;(try dsimp only at hW);go_simp;try with_reducible rfl)
  try simp only [Act.put,aI,aZ,aS]
  refine wpAnyH_ready (rs:=[31]) (by kernel_rfl) (by simp) ?_
  refine AllReadyH.cons (o:=⟨some 67,.call ⟨ .value (.func 20),#[],#[]⟩,4,_,_,some (30,true)⟩) rfl (fun K hK=>?_) AllReadyH.nil
  go_simp
  refine (known10_any W20 HM20.out).mono ?_
  rintro e W21 ⟨rfl,hb⟩
  have HB21:=Lib.hid (HB20.out.trans (hb.mono HB20.out.size))
  have HM21:=Lib.hid (HM20.out.under hb)
  have Rn21:=Lib.hid ((Rn20.out.under hb).more hb.size)
  have Vp21:=Lib.hid (Vp20.out.under hb)
  have SB21:=Lib.hid (SB20.out.under hb (Holds.lt SB20.out))
  have Rm21:=Lib.hid ((Rm20.out.under hb).more hb.size)
  have OB21:=Lib.hid (OB20.out.under hb (Holds.lt OB20.out))
  have Vo21:=Lib.hid (Vo20.out.under hb)
  have HN21:=Lib.hid ((HN20.out.under hb).more hb.size)
  have Vq21:=Lib.hid (Vq20.out.under hb)
  have Vr21:=Lib.hid (Vr20.out.under hb)
  have Vt21:=Lib.hid (Vt20.out.under hb)
  clear hb HB20 HM20 Rn20 Vp20 SB20 Rm20 OB20 Vo20 HN20 Vq20 Vr20 Vt20
  have HS21:Hid ((fun W=>Holds W s 26 #[.slice Ap ap.length cp,.slice Bp bp.length dp,.bool false]∧Holds W o 26 #[.slice Ap ap.length cp,.slice Ay y.length cy,.bool false]∧True) W21):=Lib.hid ⟨SB21.out,OB21.out,trivial⟩
  go_simp
  refine hK.out _ _ (HS21.out) (fun _=>?_)
  clear hK K hHeld
  try simp only [Act.put,aI,aZ,aS]
  have hHeld:(fun W=>Holds W s 26 #[.slice Ap ap.length cp,.slice Bp bp.length dp,.bool false]∧Holds W o 26 #[.slice Ap ap.length cp,.slice Ay y.length cy,.bool false]∧True) W21:=HS21.out
  refine wpAnyH_take (i:=32) (oi:=⟨some 68,.pick (.tmp 66) (.tmp 67) (.const (.bool false)),4,_,_,none⟩) (v:=?_) rfl (by kernel_rfl) (by kernel_rfl) (by kernel_rfl) (fun _ _ _ h=>h) (Or.inl ⟨by rfl,?_⟩) hHeld ?_
  rotate_left 1
  ·(intro W hW;(try dsimp only at hW);go_simp;try with_reducible rfl)
  try simp only [Act.put,aI,aZ,aS]
  refine wpAnyH_take (i:=33) (oi:=⟨some 4,.assign (.tmp 68),4,_,_,none⟩) (v:=?_) rfl (by kernel_rfl) (by kernel_rfl) (by kernel_rfl) (fun _ _ _ h=>h) (Or.inl ⟨by rfl,?_⟩) hHeld ?_
  rotate_left 1
  ·(intro W hW;(try dsimp only at hW);go_simp;try with_reducible rfl)
  try simp only [Act.put,aI,aZ,aS]
  refine wpAnyH_done (by kernel_rfl) ?_ _
  refine NoPanic.normal ?_
  go_wp2_with fail
  go_ret
  exact ⟨rfl,HB21.out⟩
theorem law_roundN (w:World) (hm:CMet w) (A:Option Addr) (ca na:Nat) (a:List Nat) (hna:a.length=na) (hr0:Rd .u32 w w.heap.size A ca a) (hda:Dg a) (x:Int) (hx:0≤x∧x<4294967296) :
  Calls Tryd.prog 5 #[.slice A na ca,.int .u32 x] w fun e w'=>e = .returned (.bool true)∧Below w.heap.size w w':=by
 obtain ⟨k,rfl⟩:∃ k:Nat,x=(k:Int):=⟨x.toNat,by omega⟩
 subst hna
 exact law_round w hm A ca a hr0 hda k (by omega)
end Go.Proofs.YtflfdglpljodbaaDoor

