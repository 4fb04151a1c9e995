/-
  The document: a sum.
-/
import Derived.Test.YtflfdglpljodbaaDoorGCv32
import Derived.Deep.RegionLaw
import Derived.Deep.RegionHeld3
import Derived.Deep.DrawnRows
set_option maxRecDepth 100000
set_option maxHeartbeats 8000000
namespace Go.Proofs.YtflfdglpljodbaaDoor
open Go.RowKit
set_option linter.unusedVariables false
set_option linter.unusedSimpArgs false
theorem addR_left (w:World) (A1 A2 B1 B2:Option Addr) (n1 c1 n2 c2 k1 d1 k2 d2:Nat) (jnf:Bool) :
  Calls Tryd.prog 17 #[.agg #[.slice A1 n1 c1,.slice A2 n2 c2,.bool true],.agg #[.slice B1 k1 d1,.slice B2 k2 d2,.bool jnf]] w fun e w'=>e = .returned (.agg #[.slice B1 k1 d1,.slice B2 k2 d2,.bool jnf])∧Below w.heap.size w w':=by
 have e:((w.alloc (.cells #[.slice A1 n1 c1,.slice A2 n2 c2,.bool true] 26)).alloc (.cells #[.slice B1 k1 d1,.slice B2 k2 d2,.bool jnf] 26)).heap.size=w.heap.size+1+1:=by simp
 have hR:=Holds.fresh ((w.alloc (.cells #[.slice A1 n1 c1,.slice A2 n2 c2,.bool true] 26)).alloc (.cells #[.slice B1 k1 d1,.slice B2 k2 d2,.bool jnf] 26)) 26 #[.slice B1 k1 d1,.slice B2 k2 d2,.bool jnf]
 rw [e] at hR
 clear e
 go_enter Tryd.func17,Tryd.ntmps17
 go_wp2_with fail
 exact ret_pt (g:=w.heap.size+1+1) rfl rfl hR rfl ⟨rfl,(((Below.refl _ _).alloc (Nat.le_refl _) _).alloc (by simp) _).alloc (by simp;omega) _⟩
theorem addR_right (w:World) (A1 A2 B1 B2:Option Addr) (n1 c1 n2 c2 k1 d1 k2 d2:Nat) :
  Calls Tryd.prog 17 #[.agg #[.slice A1 n1 c1,.slice A2 n2 c2,.bool false],.agg #[.slice B1 k1 d1,.slice B2 k2 d2,.bool true]] w fun e w'=>e = .returned (.agg #[.slice A1 n1 c1,.slice A2 n2 c2,.bool false])∧Below w.heap.size w w':=by
 have e:((w.alloc (.cells #[.slice A1 n1 c1,.slice A2 n2 c2,.bool false] 26)).alloc (.cells #[.slice B1 k1 d1,.slice B2 k2 d2,.bool true] 26)).heap.size=w.heap.size+1+1:=by simp
 have hR:=Holds.fresh ((w.alloc (.cells #[.slice A1 n1 c1,.slice A2 n2 c2,.bool false] 26)).alloc (.cells #[.slice B1 k1 d1,.slice B2 k2 d2,.bool true] 26)) 26 #[.slice A1 n1 c1,.slice A2 n2 c2,.bool false]
 rw [e] at hR
 clear e
 go_enter Tryd.func17,Tryd.ntmps17
 go_wp2_with fail
 exact ret_pt (g:=w.heap.size+1+1) rfl rfl hR rfl ⟨rfl,(((Below.refl _ _).alloc (Nat.le_refl _) _).alloc (by simp) _).alloc (by simp;omega) _⟩
theorem addR_opp (w:World) {x1 y1 x2 y2:Luc.F} {A1 A2 B1 B2:Option Addr} {c1 c2 d1 d2:Nat} {l1 l2 m1 m2:List Nat} (hx1:NR w A1 c1 l1 x1) (hy1:NR w A2 c2 l2 y1) (hx2:NR w B1 d1 m1 x2) (hy2:NR w B2 d2 m2 y2) (hx:x1=x2) (hy:y1+y2=0) :
  Calls Tryd.prog 17 #[.agg #[.slice A1 l1.length c1,.slice A2 l2.length c2,.bool false],.agg #[.slice B1 m1.length d1,.slice B2 m2.length d2,.bool false]] w (PtR none w):=by
 have HC:Hid (cmpL l1 m1=0):=lH (by
  have e:l1=m1:=num_one hx1.num (hx ▸ hx2.num)
  rw [←e]
  exact cmp_self hx1.num)
 have HY:=lH hy
 clear hx hy
 obtain ⟨w1,av⟩:∃ W,W=w.alloc (.cells #[.slice A1 l1.length c1,.slice A2 l2.length c2,.bool false] 26):=⟨_,rfl⟩
 have aG:w1.heap.size=w.heap.size+1:=by rw [av];simp
 have aD:Below w.heap.size w w1:=by rw [av];exact (Below.refl _ _).alloc (Nat.le_refl _) _
 obtain ⟨w2,ao⟩:∃ W,W=w1.alloc (.cells #[.slice B1 m1.length d1,.slice B2 m2.length d2,.bool false] 26):=⟨_,rfl⟩
 have aH:w2.heap.size=w.heap.size+1+1:=by rw [ao];simp [aG]
 have aE:Below w.heap.size w w2:=by rw [ao];exact aD.alloc aD.size _
 obtain ⟨W0,ac⟩:∃ W,W=w2.alloc (.cells #[.slice none 0 0,.slice none 0 0,.bool false] 26):=⟨_,rfl⟩
 have ai:Below w.heap.size w W0:=by rw [ac];exact aE.alloc aE.size _
 have ae:Hid (Holds W0 w.heap.size 26 #[.slice A1 l1.length c1,.slice A2 l2.length c2,.bool false]):=lH (by rw [ac,ao,av];exact ((Holds.fresh w _ _).alloc _).alloc _)
 have au:Hid (Holds W0 (w.heap.size+1) 26 #[.slice B1 m1.length d1,.slice B2 m2.length d2,.bool false]):=lH (by rw [ac,ao,←aG];exact (Holds.fresh w1 _ _).alloc _)
 have az:Hid (Holds W0 (w.heap.size+1+1) 26 #[.slice none 0 0,.slice none 0 0,.bool false]):=lH (by rw [ac,←aH];exact Holds.fresh w2 _ _)
 have aF:=lH ai
 have HW:=lH (av ▸ ao ▸ ac:W0=((w.alloc (.cells #[.slice A1 l1.length c1,.slice A2 l2.length c2,.bool false] 26)).alloc (.cells #[.slice B1 m1.length d1,.slice B2 m2.length d2,.bool false] 26)).alloc (.cells #[.slice none 0 0,.slice none 0 0,.bool false] 26))
 have aC:=lH (hx1.under ai)
 have aM:=lH (hy1.under ai)
 have aw:=lH (hx2.under ai)
 have aK:=lH (hy2.under ai)
 clear hx1 hy1 hx2 hy2 av aG aD ao aH aE ac ai
 go_enter Tryd.func17,Tryd.ntmps17
 go_wp2_with fail
 rw [←HW.out]
 clear HW
 have p0:=ae.out.cell 0
 have p1:=ae.out.cell 1
 have p2:=ae.out.cell 2
 have q0:=au.out.cell 0
 have q1:=au.out.cell 1
 have q2:=au.out.cell 2
 go_wp2_with fail
 refine (cmp'_any W0 _ _ A1 B1 c1 d1 l1 m1 aC.out.rd aw.out.rd 0 HC).mono ?_
 rintro e W1 ⟨rfl,q,hq⟩
 have hb:Below W0.heap.size W0 W1:=by rw [hq];exact bdN (Below.refl _ _) q
 have aB:=lH (aF.out.trans (hb.mono aF.out.size))
 have ak:=lH (ae.out.under hb (Holds.lt ae))
 have am:=lH (au.out.under hb (Holds.lt au))
 have ax:=lH (az.out.under hb (Holds.lt az))
 have aJ:=lH (aC.out.under hb)
 have ay:=lH (aM.out.under hb)
 have aL:=lH (aw.out.under hb)
 have aA:=lH (aK.out.under hb)
 clear hb aF ae au az aC aM aw aK
 clear hq p0 p1 p2 q0 q1 q2
 have p0:=ak.out.cell 0
 have p1:=ak.out.cell 1
 have p2:=ak.out.cell 2
 have q0:=am.out.cell 0
 have q1:=am.out.cell 1
 have q2:=am.out.cell 2
 go_wp2_with fail
 refine (addRF W1 ay aA).mono ?_
 rintro e W2 ⟨Az,cz,lz,rfl,hn,hb⟩
 have aO:=lH (aB.out.trans (hb.mono aB.out.size))
 have PB2:=lH (ak.out.under hb (Holds.lt ak))
 have QB2:=lH (am.out.under hb (Holds.lt am))
 have ab:=lH (ax.out.under hb (Holds.lt ax))
 have Nx2:=lH (aJ.out.under hb)
 have Ny2:=lH (ay.out.under hb)
 have Nu2:=lH (aL.out.under hb)
 have Nv2:=lH (aA.out.under hb)
 clear hb aB ak am ax aJ ay aL aA
 have aN:=lH hn
 clear hn
 clear p0 p1 p2 q0 q1 q2
 have e0:lz.length=0:=aN.out.zero_iff.2 HY.out
 have t1:((lz.length:Int) == 0)=true:=by rw [beq_iff_eq];omega
 have t2:decide ((lz.length:Int)=0)=true:=decide_eq_true (by omega)
 clear e0
 have r0:=ab.out.cell 0
 have r1:=ab.out.cell 1
 have r2:=ab.out.cell 2
 have or0:=ab.out.open_ 0
 have or1:=ab.out.open_ 1
 have or2:=ab.out.open_ 2
 go_wp2_with fail
 exact ret_pt (g:=w.heap.size+1+1) rfl rfl (set3 ab _ _ _) rfl ⟨none,0,[],none,0,[],true,rfl,PtV.none _,below3 aO (by omega) _ _ _⟩
theorem addR_same (w:World) {x1 y1 x2 y2:Luc.F} {A1 A2 B1 B2:Option Addr} {c1 c2 d1 d2:Nat} {l1 l2 m1 m2:List Nat} (hx1:NR w A1 c1 l1 x1) (hy1:NR w A2 c2 l2 y1) (hx2:NR w B1 d1 m1 x2) (hy2:NR w B2 d2 m2 y2) (hx:x1=x2) (hy:y1+y2≠0) (h12:y1=y2) :
  Calls Tryd.prog 17 #[.agg #[.slice A1 l1.length c1,.slice A2 l2.length c2,.bool false],.agg #[.slice B1 m1.length d1,.slice B2 m2.length d2,.bool false]] w (PtR (some (Luc.third (Luc.sl x1 y1 x2 y2) x1 y1 x2 y2)) w):=by
 have HC:Hid (cmpL l1 m1=0):=lH (by
  have e:l1=m1:=num_one hx1.num (hx ▸ hx2.num)
  rw [←e]
  exact cmp_self hx1.num)
 have HY:=lH hy
 have HN:Hid (¬ (x1=x2∧y1+y2=0)):=lH fun e=>hy e.2
 have d9:Hid (x1=x2→y1=y2):=lH fun _=>h12
 clear hx hy h12
 obtain ⟨w1,aQ⟩:∃ W,W=w.alloc (.cells #[.slice A1 l1.length c1,.slice A2 l2.length c2,.bool false] 26):=⟨_,rfl⟩
 have bN:w1.heap.size=w.heap.size+1:=by rw [aQ];simp
 have bz:Below w.heap.size w w1:=by rw [aQ];exact (Below.refl _ _).alloc (Nat.le_refl _) _
 obtain ⟨w2,aA⟩:∃ W,W=w1.alloc (.cells #[.slice B1 m1.length d1,.slice B2 m2.length d2,.bool false] 26):=⟨_,rfl⟩
 have dM:w2.heap.size=w.heap.size+1+1:=by rw [aA];simp [bN]
 have bY:Below w.heap.size w w2:=by rw [aA];exact bz.alloc bz.size _
 obtain ⟨W0,aE⟩:∃ W,W=w2.alloc (.cells #[.slice none 0 0,.slice none 0 0,.bool false] 26):=⟨_,rfl⟩
 have az:Below w.heap.size w W0:=by rw [aE];exact bY.alloc bY.size _
 have aB:Hid (Holds W0 w.heap.size 26 #[.slice A1 l1.length c1,.slice A2 l2.length c2,.bool false]):=lH (by rw [aE,aA,aQ];exact ((Holds.fresh w _ _).alloc _).alloc _)
 have aH:Hid (Holds W0 (w.heap.size+1) 26 #[.slice B1 m1.length d1,.slice B2 m2.length d2,.bool false]):=lH (by rw [aE,aA,←bN];exact (Holds.fresh w1 _ _).alloc _)
 have bJ:Hid (Holds W0 (w.heap.size+1+1) 26 #[.slice none 0 0,.slice none 0 0,.bool false]):=lH (by rw [aE,←dM];exact Holds.fresh w2 _ _)
 have bB:=lH az
 have HW:=lH (aQ ▸ aA ▸ aE:W0=((w.alloc (.cells #[.slice A1 l1.length c1,.slice A2 l2.length c2,.bool false] 26)).alloc (.cells #[.slice B1 m1.length d1,.slice B2 m2.length d2,.bool false] 26)).alloc (.cells #[.slice none 0 0,.slice none 0 0,.bool false] 26))
 have bW:=lH (hx1.under az)
 have dU:=lH (hy1.under az)
 have bE:=lH (hx2.under az)
 have dE:=lH (hy2.under az)
 clear hx1 hy1 hx2 hy2 aQ bN bz aA dM bY aE az
 go_enter Tryd.func17,Tryd.ntmps17
 go_wp2_with fail
 rw [←HW.out]
 clear HW
 have p0:=aB.out.cell 0
 have p1:=aB.out.cell 1
 have p2:=aB.out.cell 2
 have q0:=aH.out.cell 0
 have q1:=aH.out.cell 1
 have q2:=aH.out.cell 2
 go_wp2_with fail
 refine (cmp'_any W0 _ _ A1 B1 c1 d1 l1 m1 bW.out.rd bE.out.rd 0 HC).mono ?_
 rintro e W1 ⟨rfl,q,hq⟩
 have hb:Below W0.heap.size W0 W1:=by rw [hq];exact bdN (Below.refl _ _) q
 have cF:=lH (bB.out.trans (hb.mono bB.out.size))
 have aC:=lH (aB.out.under hb (Holds.lt aB))
 have aG:=lH (aH.out.under hb (Holds.lt aH))
 have bP:=lH (bJ.out.under hb (Holds.lt bJ))
 have dD:=lH (bW.out.under hb)
 have bR:=lH (dU.out.under hb)
 have dt:=lH (bE.out.under hb)
 have bU:=lH (dE.out.under hb)
 clear hb bB aB aH bJ bW dU bE dE
 clear hq p0 p1 p2 q0 q1 q2
 have p0:=aC.out.cell 0
 have p1:=aC.out.cell 1
 have p2:=aC.out.cell 2
 have q0:=aG.out.cell 0
 have q1:=aG.out.cell 1
 have q2:=aG.out.cell 2
 go_wp2_with fail
 refine (addRF W1 bR bU).mono ?_
 rintro e W2 ⟨Az,cz,lz,rfl,hn,hb⟩
 have cH:=lH (cF.out.trans (hb.mono cF.out.size))
 have aD:=lH (aC.out.under hb (Holds.lt aC))
 have aF:=lH (aG.out.under hb (Holds.lt aG))
 have br:=lH (bP.out.under hb (Holds.lt bP))
 have cB:=lH (dD.out.under hb)
 have b_:=lH (bR.out.under hb)
 have bF:=lH (dt.out.under hb)
 have bs:=lH (bU.out.under hb)
 clear hb cF aC aG bP dD bR dt bU
 have cM:=lH hn
 clear hn
 clear p0 p1 p2 q0 q1 q2
 have e0:¬ lz.length=0:=fun e=>HY.out (cM.out.zero_iff.1 e)
 have t1:((lz.length:Int) == 0)=false:=by rw [beq_eq_false_iff_ne];omega
 have t2:decide ((lz.length:Int)=0)=false:=decide_eq_false (by omega)
 clear e0
 clear cM
 have p0:=aD.out.cell 0
 have p1:=aD.out.cell 1
 have p2:=aD.out.cell 2
 have q0:=aF.out.cell 0
 have q1:=aF.out.cell 1
 have q2:=aF.out.cell 2
 go_wp2_with fail
 refine (slopeR_any W2 cB b_ bF bs HN d9).mono ?_
 rintro e W3 ⟨As,cs,ls,rfl,hn,hb⟩
 have bu:=lH (cH.out.trans (hb.mono cH.out.size))
 have bc:=lH (aD.out.under hb (Holds.lt aD))
 have bk:=lH (aF.out.under hb (Holds.lt aF))
 have bv:=lH (br.out.under hb (Holds.lt br))
 have c_:=lH (cB.out.under hb)
 have du:=lH (b_.out.under hb)
 have dr:=lH (bF.out.under hb)
 have dW:=lH (bs.out.under hb)
 clear hb cH aD aF br cB b_ bF bs
 obtain ⟨sv,cC⟩:∃ v_,v_=Luc.sl x1 y1 x2 y2:=⟨_,rfl⟩
 rw [←cC] at hn
 have dX:=lH cC
 have dl:=lH hn
 clear hn cC
 clear p0 p1 p2 q0 q1 q2
 go_wp2_with fail
 refine wp_region_noPanic ?_
 refine wp_region_held_drew (S:=fun W=>Holds W w.heap.size 26 #[.slice A1 l1.length c1,.slice A2 l2.length c2,.bool false]∧Holds W (w.heap.size+1) 26 #[.slice B1 m1.length d1,.slice B2 m2.length d2,.bool false]∧True) (by kernel_rfl) (⟨bc.out,bk.out,trivial⟩) (fun ab=>?_)
 obtain ⟨W4,hV⟩:∃ W,W=W3.drew:=⟨_,rfl⟩
 rw [←hV]
 have hb:Below W3.heap.size W3 W4:=by rw [hV];exact (Below.refl _ W3).drew
 have bx:=lH (bu.out.trans (hb.mono bu.out.size))
 have a6:=lH (bc.out.under hb (Holds.lt bc))
 have a_:=lH (bk.out.under hb (Holds.lt bk))
 have cA:=lH (bv.out.under hb (Holds.lt bv))
 have dF:=lH (c_.out.under hb)
 have cT:=lH (du.out.under hb)
 have dO:=lH (dr.out.under hb)
 have cK:=lH (dW.out.under hb)
 have bm:=lH (dl.out.under hb)
 clear hb bu bc bk bv c_ du dr dW dl
 have d6:Hid ((fun W=>Holds W w.heap.size 26 #[.slice A1 l1.length c1,.slice A2 l2.length c2,.bool false]∧Holds W (w.heap.size+1) 26 #[.slice B1 m1.length d1,.slice B2 m2.length d2,.bool false]∧True) W4):=lH ⟨a6,a_,trivial⟩
 replace ab:(fun W=>Holds W w.heap.size 26 #[.slice A1 l1.length c1,.slice A2 l2.length c2,.bool false]∧Holds W (w.heap.size+1) 26 #[.slice B1 m1.length d1,.slice B2 m2.length d2,.bool false]∧True) W4:=d6.out
 clear hV
 refine tz 0 ⟨some 35,.move (.tmp 5),24,_,_,none⟩ rfl ab ?_
 try simp only [aP]
 refine tz 1 ⟨some 36,.move (.tmp 5),24,_,_,none⟩ rfl ab ?_
 try simp only [aP]
 refine tz 3 ⟨some 38,.fieldAddr 26 (.tmp 2) 0,0,_,_,none⟩ rfl ab ?_
 try simp only [aP]
 refine tk 4 ⟨some 39,.load 24 (.tmp 38),24,_,_,none⟩ ?_ rfl ?_ ab ?_
 rotate_left 1
 ·(intro W hW;have bT:=hW.1.cell 0;(try dsimp only at hW);go_simp;try with_reducible rfl)
 try simp only [aP]
 refine tz 6 ⟨some 41,.fieldAddr 26 (.tmp 3) 0,0,_,_,none⟩ rfl ab ?_
 try simp only [aP]
 refine tk 7 ⟨some 42,.load 24 (.tmp 41),24,_,_,none⟩ ?_ rfl ?_ ab ?_
 rotate_left 1
 ·(intro W hW;have bT:=hW.2.1.cell 0;(try dsimp only at hW);go_simp;try with_reducible rfl)
 try simp only [aP]
 refine rdy 2 ⟨some 37,.call ⟨ .value (.func 46),#[.tmp 35,.tmp 36],#[24,24]⟩,24,_,_,none⟩ rfl (fun K hK=>?_)
 go_simp
 refine (mulRF W4 bm bm).mono ?_
 rintro e W5 ⟨Ass,css,lss,rfl,hn,hb⟩
 have bw:=lH (bx.out.trans (hb.mono bx.out.size))
 have bn:=lH (a6.out.under hb (Holds.lt a6))
 have bf:=lH (a_.out.under hb (Holds.lt a_))
 have bQ:=lH (cA.out.under hb (Holds.lt cA))
 have cl:=lH (dF.out.under hb)
 have cL:=lH (cT.out.under hb)
 have cW:=lH (dO.out.under hb)
 have dA:=lH (cK.out.under hb)
 have dI:=lH (bm.out.under hb)
 clear hb bx a6 a_ cA dF cT dO cK bm
 have ax:=lH hn
 clear hn
 have cO:Hid ((fun W=>Holds W w.heap.size 26 #[.slice A1 l1.length c1,.slice A2 l2.length c2,.bool false]∧Holds W (w.heap.size+1) 26 #[.slice B1 m1.length d1,.slice B2 m2.length d2,.bool false]∧True) W5):=lH ⟨bn,bf,trivial⟩
 go_simp
 refine hK.out _ _ (cO.out) (fun _=>?_)
 clear hK K ab
 try simp only [aP]
 have ab:(fun W=>Holds W w.heap.size 26 #[.slice A1 l1.length c1,.slice A2 l2.length c2,.bool false]∧Holds W (w.heap.size+1) 26 #[.slice B1 m1.length d1,.slice B2 m2.length d2,.bool false]∧True) W5:=cO.out
 refine rdy 5 ⟨some 40,.call ⟨ .value (.func 48),#[.tmp 37,.tmp 39],#[24,24]⟩,24,_,_,none⟩ rfl (fun K hK=>?_)
 go_simp
 refine (subRF W5 ax cl).mono ?_
 rintro e W6 ⟨As1,cs1,ls1,rfl,hn,hb⟩
 have bG:=lH (bw.out.trans (hb.mono bw.out.size))
 have aY:=lH (bn.out.under hb (Holds.lt bn))
 have a9:=lH (bf.out.under hb (Holds.lt bf))
 have bX:=lH (bQ.out.under hb (Holds.lt bQ))
 have dK:=lH (cl.out.under hb)
 have dL:=lH (cL.out.under hb)
 have bV:=lH (cW.out.under hb)
 have ds:=lH (dA.out.under hb)
 have dS:=lH (dI.out.under hb)
 have aT:=lH (ax.out.under hb)
 clear hb bw bn bf bQ cl cL cW dA dI ax
 have ao:=lH hn
 clear hn
 have dC:Hid ((fun W=>Holds W w.heap.size 26 #[.slice A1 l1.length c1,.slice A2 l2.length c2,.bool false]∧Holds W (w.heap.size+1) 26 #[.slice B1 m1.length d1,.slice B2 m2.length d2,.bool false]∧True) W6):=lH ⟨aY,a9,trivial⟩
 go_simp
 refine hK.out _ _ (dC.out) (fun _=>?_)
 clear hK K ab
 try simp only [aP]
 have ab:(fun W=>Holds W w.heap.size 26 #[.slice A1 l1.length c1,.slice A2 l2.length c2,.bool false]∧Holds W (w.heap.size+1) 26 #[.slice B1 m1.length d1,.slice B2 m2.length d2,.bool false]∧True) W6:=dC.out
 refine rdy 8 ⟨some 43,.call ⟨ .value (.func 48),#[.tmp 40,.tmp 42],#[24,24]⟩,24,_,_,none⟩ rfl (fun K hK=>?_)
 go_simp
 refine (subRF W6 ao bV).mono ?_
 rintro e W7 ⟨AX,cX,lX,rfl,hn,hb⟩
 have cG:=lH (bG.out.trans (hb.mono bG.out.size))
 have aW:=lH (aY.out.under hb (Holds.lt aY))
 have aV:=lH (a9.out.under hb (Holds.lt a9))
 have bA:=lH (bX.out.under hb (Holds.lt bX))
 have dT:=lH (dK.out.under hb)
 have dc:=lH (dL.out.under hb)
 have dJ:=lH (bV.out.under hb)
 have dN:=lH (ds.out.under hb)
 have cN:=lH (dS.out.under hb)
 have cE:=lH (aT.out.under hb)
 have bK:=lH (ao.out.under hb)
 clear hb bG aY a9 bX dK dL bV ds dS aT ao
 have dQ:=lH hn
 clear hn
 have dB:Hid ((fun W=>Holds W w.heap.size 26 #[.slice A1 l1.length c1,.slice A2 l2.length c2,.bool false]∧Holds W (w.heap.size+1) 26 #[.slice B1 m1.length d1,.slice B2 m2.length d2,.bool false]∧True) W7):=lH ⟨aW,aV,trivial⟩
 go_simp
 refine hK.out _ _ (dB.out) (fun _=>?_)
 clear hK K ab
 try simp only [aP]
 have ab:(fun W=>Holds W w.heap.size 26 #[.slice A1 l1.length c1,.slice A2 l2.length c2,.bool false]∧Holds W (w.heap.size+1) 26 #[.slice B1 m1.length d1,.slice B2 m2.length d2,.bool false]∧True) W7:=dB.out
 refine tz 9 ⟨some 6,.assign (.tmp 43),24,_,_,none⟩ rfl ab ?_
 try simp only [aP]
 refine dn ?_
 clear cE bK
 go_wp2_with fail
 refine wp_region_noPanic ?_
 refine wp_region_held_drew (S:=fun W=>Holds W w.heap.size 26 #[.slice A1 l1.length c1,.slice A2 l2.length c2,.bool false]∧Holds W (w.heap.size+1) 26 #[.slice B1 m1.length d1,.slice B2 m2.length d2,.bool false]∧True) (by kernel_rfl) (⟨aW.out,aV.out,trivial⟩) (fun ab=>?_)
 obtain ⟨W8,hV⟩:∃ W,W=W7.drew:=⟨_,rfl⟩
 rw [←hV]
 have hb:Below W7.heap.size W7 W8:=by rw [hV];exact (Below.refl _ W7).drew
 have cD:=lH (cG.out.trans (hb.mono cG.out.size))
 have bl:=lH (aW.out.under hb (Holds.lt aW))
 have a8:=lH (aV.out.under hb (Holds.lt aV))
 have bI:=lH (bA.out.under hb (Holds.lt bA))
 have bL:=lH (dT.out.under hb)
 have di:=lH (dc.out.under hb)
 have dw:=lH (dJ.out.under hb)
 have cU:=lH (dN.out.under hb)
 have dP:=lH (cN.out.under hb)
 have bM:=lH (dQ.out.under hb)
 clear hb cG aW aV bA dT dc dJ dN cN dQ
 have d7:Hid ((fun W=>Holds W w.heap.size 26 #[.slice A1 l1.length c1,.slice A2 l2.length c2,.bool false]∧Holds W (w.heap.size+1) 26 #[.slice B1 m1.length d1,.slice B2 m2.length d2,.bool false]∧True) W8):=lH ⟨bl,a8,trivial⟩
 replace ab:(fun W=>Holds W w.heap.size 26 #[.slice A1 l1.length c1,.slice A2 l2.length c2,.bool false]∧Holds W (w.heap.size+1) 26 #[.slice B1 m1.length d1,.slice B2 m2.length d2,.bool false]∧True) W8:=d7.out
 clear hV
 refine tz 0 ⟨some 44,.move (.tmp 6),24,_,_,none⟩ rfl ab ?_
 try simp only [aP]
 refine tz 1 ⟨some 45,.move (.tmp 5),24,_,_,none⟩ rfl ab ?_
 try simp only [aP]
 refine tz 2 ⟨some 46,.fieldAddr 26 (.tmp 2) 0,0,_,_,none⟩ rfl ab ?_
 try simp only [aP]
 refine tk 3 ⟨some 47,.load 24 (.tmp 46),24,_,_,none⟩ ?_ rfl ?_ ab ?_
 rotate_left 1
 ·(intro W hW;have bT:=hW.1.cell 0;(try dsimp only at hW);go_simp;try with_reducible rfl)
 try simp only [aP]
 refine tz 4 ⟨some 48,.move (.tmp 6),24,_,_,none⟩ rfl ab ?_
 try simp only [aP]
 refine tz 7 ⟨some 51,.fieldAddr 26 (.tmp 2) 1,0,_,_,none⟩ rfl ab ?_
 try simp only [aP]
 refine tk 8 ⟨some 52,.load 24 (.tmp 51),24,_,_,none⟩ ?_ rfl ?_ ab ?_
 rotate_left 1
 ·(intro W hW;have bT:=hW.1.cell 1;(try dsimp only at hW);go_simp;try with_reducible rfl)
 try simp only [aP]
 refine rdy 5 ⟨some 49,.call ⟨ .value (.func 48),#[.tmp 47,.tmp 48],#[24,24]⟩,24,_,_,none⟩ rfl (fun K hK=>?_)
 go_simp
 refine (subRF W8 bL bM).mono ?_
 rintro e W9 ⟨At1,ct1,lt1,rfl,hn,hb⟩
 have cJ:=lH (cD.out.trans (hb.mono cD.out.size))
 have bd:=lH (bl.out.under hb (Holds.lt bl))
 have ba:=lH (a8.out.under hb (Holds.lt a8))
 have bS:=lH (bI.out.under hb (Holds.lt bI))
 have cS:=lH (bL.out.under hb)
 have dv:=lH (di.out.under hb)
 have dG:=lH (dw.out.under hb)
 have dV:=lH (cU.out.under hb)
 have bt:=lH (dP.out.under hb)
 have cV:=lH (bM.out.under hb)
 clear hb cD bl a8 bI bL di dw cU dP bM
 have aw:=lH hn
 clear hn
 have dR:Hid ((fun W=>Holds W w.heap.size 26 #[.slice A1 l1.length c1,.slice A2 l2.length c2,.bool false]∧Holds W (w.heap.size+1) 26 #[.slice B1 m1.length d1,.slice B2 m2.length d2,.bool false]∧True) W9):=lH ⟨bd,ba,trivial⟩
 go_simp
 refine hK.out _ _ (dR.out) (fun _=>?_)
 clear hK K ab
 try simp only [aP]
 have ab:(fun W=>Holds W w.heap.size 26 #[.slice A1 l1.length c1,.slice A2 l2.length c2,.bool false]∧Holds W (w.heap.size+1) 26 #[.slice B1 m1.length d1,.slice B2 m2.length d2,.bool false]∧True) W9:=dR.out
 refine rdy 6 ⟨some 50,.call ⟨ .value (.func 46),#[.tmp 45,.tmp 49],#[24,24]⟩,24,_,_,none⟩ rfl (fun K hK=>?_)
 go_simp
 refine (mulRF W9 bt aw).mono ?_
 rintro e bZ ⟨At2,ct2,lt2,rfl,hn,hb⟩
 have av:=lH (cJ.out.trans (hb.mono cJ.out.size))
 have ai:=lH (bd.out.under hb (Holds.lt bd))
 have ak:=lH (ba.out.under hb (Holds.lt ba))
 have ay:=lH (bS.out.under hb (Holds.lt bS))
 have aU:=lH (cS.out.under hb)
 have au:=lH (dv.out.under hb)
 have aX:=lH (dG.out.under hb)
 have aR:=lH (dV.out.under hb)
 have aJ:=lH (bt.out.under hb)
 have aL:=lH (cV.out.under hb)
 have am:=lH (aw.out.under hb)
 clear hb cJ bd ba bS cS dv dG dV bt cV aw
 have ae:=lH hn
 clear hn
 have aN:Hid ((fun W=>Holds W w.heap.size 26 #[.slice A1 l1.length c1,.slice A2 l2.length c2,.bool false]∧Holds W (w.heap.size+1) 26 #[.slice B1 m1.length d1,.slice B2 m2.length d2,.bool false]∧True) bZ):=lH ⟨ai,ak,trivial⟩
 go_simp
 refine hK.out _ _ (aN.out) (fun _=>?_)
 clear hK K ab
 try simp only [aP]
 have ab:(fun W=>Holds W w.heap.size 26 #[.slice A1 l1.length c1,.slice A2 l2.length c2,.bool false]∧Holds W (w.heap.size+1) 26 #[.slice B1 m1.length d1,.slice B2 m2.length d2,.bool false]∧True) bZ:=aN.out
 refine rdy 9 ⟨some 53,.call ⟨ .value (.func 48),#[.tmp 50,.tmp 52],#[24,24]⟩,24,_,_,none⟩ rfl (fun K hK=>?_)
 go_simp
 refine (subRF bZ ae au).mono ?_
 rintro e bH ⟨AY,cY,lY,rfl,hn,hb⟩
 have bD:=lH (av.out.trans (hb.mono av.out.size))
 have aM:=lH (ai.out.under hb (Holds.lt ai))
 have aO:=lH (ak.out.under hb (Holds.lt ak))
 have ac:=lH (ay.out.under hb (Holds.lt ay))
 have Nx11:=lH (aU.out.under hb)
 have Ny11:=lH (au.out.under hb)
 have Nu11:=lH (aX.out.under hb)
 have Nv11:=lH (aR.out.under hb)
 have Ns11:=lH (aJ.out.under hb)
 have bC:=lH (aL.out.under hb)
 have Nt111:=lH (am.out.under hb)
 have Nt211:=lH (ae.out.under hb)
 clear hb av ai ak ay aU au aX aR aJ aL am ae
 have bO:=lH hn
 clear hn
 have aK:Hid ((fun W=>Holds W w.heap.size 26 #[.slice A1 l1.length c1,.slice A2 l2.length c2,.bool false]∧Holds W (w.heap.size+1) 26 #[.slice B1 m1.length d1,.slice B2 m2.length d2,.bool false]∧True) bH):=lH ⟨aM,aO,trivial⟩
 go_simp
 refine hK.out _ _ (aK.out) (fun _=>?_)
 clear hK K ab
 try simp only [aP]
 have ab:(fun W=>Holds W w.heap.size 26 #[.slice A1 l1.length c1,.slice A2 l2.length c2,.bool false]∧Holds W (w.heap.size+1) 26 #[.slice B1 m1.length d1,.slice B2 m2.length d2,.bool false]∧True) bH:=aK.out
 refine tz 10 ⟨some 54,.build 26 #[(0,.tmp 44),(1,.tmp 53)],26,_,_,none⟩ rfl ab ?_
 try simp only [aP]
 refine rdy 11 ⟨none,.store 26 (.tmp 4) (.tmp 54),0,_,_,none⟩ rfl (fun K hK=>?_)
 have r0:=ac.out.cell 0
 have r1:=ac.out.cell 1
 have r2:=ac.out.cell 2
 have dY:=ac.out.open_ 0
 have ec:=ac.out.open_ 1
 have d8:=ac.out.open_ 2
 obtain ⟨VL,hN⟩:∃ W,W=(((bH.setCell ⟨(w.heap.size+1+1),0,none⟩ (.slice AX lX.length cX)).setCell ⟨(w.heap.size+1+1),1,none⟩ (.slice AY lY.length cY)).setCell ⟨(w.heap.size+1+1),2,none⟩ (.bool false)):=⟨_,rfl⟩
 go_simp
 rw [←hN]
 have dZ:Hid (Holds VL (w.heap.size+1+1) 26 #[.slice AX lX.length cX,.slice AY lY.length cY,.bool false]):=lH (by rw [hN];exact set3 ac _ _ _)
 have d_:Hid (Below w.heap.size w VL):=lH (by rw [hN];exact below3 bD (by omega) _ _ _)
 have dH:Hid ((fun W=>Holds W w.heap.size 26 #[.slice A1 l1.length c1,.slice A2 l2.length c2,.bool false]∧Holds W (w.heap.size+1) 26 #[.slice B1 m1.length d1,.slice B2 m2.length d2,.bool false]∧True) VL):=lH ⟨by rw [hN];exact holds_aside3 aM (k:=(w.heap.size+1+1)) (by omega) _ _ _,by rw [hN];exact holds_aside3 aO (k:=(w.heap.size+1+1)) (by omega) _ _ _,trivial⟩
 have HV:Hid (PtV (some (sv*sv - x1 - x2,sv*(x1 - (sv*sv - x1 - x2)) - y1)) VL AX cX lX AY cY lY false):=lH ⟨rfl,by rw [hN];exact bC.out.store3 ac no_numsP _ _ _,by rw [hN];exact bO.out.store3 ac no_numsP _ _ _⟩
 clear hN r0 r1 r2 dY ec d8
 refine hK.out _ _ (dH.out) (fun _=>?_)
 clear hK K ab
 try simp only [aP]
 have ab:(fun W=>Holds W w.heap.size 26 #[.slice A1 l1.length c1,.slice A2 l2.length c2,.bool false]∧Holds W (w.heap.size+1) 26 #[.slice B1 m1.length d1,.slice B2 m2.length d2,.bool false]∧True) VL:=dH.out
 refine dn ?_
 go_wp2_with fail
 have HT:Hid (PtV (some (Luc.third (Luc.sl x1 y1 x2 y2) x1 y1 x2 y2)) VL AX cX lX AY cY lY false):=lH (by rw [←dX.out];exact HV.out)
 exact ret_pt (g:=w.heap.size+1+1) rfl rfl dZ rfl ⟨AX,cX,lX,AY,cY,lY,false,rfl,HT,d_⟩
theorem addR_far (w:World) {x1 y1 x2 y2:Luc.F} {A1 A2 B1 B2:Option Addr} {c1 c2 d1 d2:Nat} {l1 l2 m1 m2:List Nat} (hx1:NR w A1 c1 l1 x1) (hy1:NR w A2 c2 l2 y1) (hx2:NR w B1 d1 m1 x2) (hy2:NR w B2 d2 m2 y2) (hx:x1≠x2) :
  Calls Tryd.prog 17 #[.agg #[.slice A1 l1.length c1,.slice A2 l2.length c2,.bool false],.agg #[.slice B1 m1.length d1,.slice B2 m2.length d2,.bool false]] w (PtR (some (Luc.third (Luc.sl x1 y1 x2 y2) x1 y1 x2 y2)) w):=by
 obtain ⟨z,hz,dG⟩:=cmp_ne hx1.num hx2.num hx
 have HC:=lH hz
 have tq:(z == 0)=false:=beq_eq_false_iff_ne.2 dG
 have tz2:decide (z=0)=false:=decide_eq_false dG
 have HN:Hid (¬ (x1=x2∧y1+y2=0)):=lH fun e=>hx e.1
 have dT:Hid (x1=x2→y1=y2):=lH fun e=>absurd e hx
 clear hx hz
 obtain ⟨w1,aE⟩:∃ W,W=w.alloc (.cells #[.slice A1 l1.length c1,.slice A2 l2.length c2,.bool false] 26):=⟨_,rfl⟩
 have bz:w1.heap.size=w.heap.size+1:=by rw [aE];simp
 have bl:Below w.heap.size w w1:=by rw [aE];exact (Below.refl _ _).alloc (Nat.le_refl _) _
 obtain ⟨w2,au⟩:∃ W,W=w1.alloc (.cells #[.slice B1 m1.length d1,.slice B2 m2.length d2,.bool false] 26):=⟨_,rfl⟩
 have dA:w2.heap.size=w.heap.size+1+1:=by rw [au];simp [bz]
 have bM:Below w.heap.size w w2:=by rw [au];exact bl.alloc bl.size _
 obtain ⟨W0,ax⟩:∃ W,W=w2.alloc (.cells #[.slice none 0 0,.slice none 0 0,.bool false] 26):=⟨_,rfl⟩
 have ao:Below w.heap.size w W0:=by rw [ax];exact bM.alloc bM.size _
 have av:Hid (Holds W0 w.heap.size 26 #[.slice A1 l1.length c1,.slice A2 l2.length c2,.bool false]):=lH (by rw [ax,au,aE];exact ((Holds.fresh w _ _).alloc _).alloc _)
 have az:Hid (Holds W0 (w.heap.size+1) 26 #[.slice B1 m1.length d1,.slice B2 m2.length d2,.bool false]):=lH (by rw [ax,au,←bz];exact (Holds.fresh w1 _ _).alloc _)
 have bv:Hid (Holds W0 (w.heap.size+1+1) 26 #[.slice none 0 0,.slice none 0 0,.bool false]):=lH (by rw [ax,←dA];exact Holds.fresh w2 _ _)
 have bn:=lH ao
 have HW:=lH (aE ▸ au ▸ ax:W0=((w.alloc (.cells #[.slice A1 l1.length c1,.slice A2 l2.length c2,.bool false] 26)).alloc (.cells #[.slice B1 m1.length d1,.slice B2 m2.length d2,.bool false] 26)).alloc (.cells #[.slice none 0 0,.slice none 0 0,.bool false] 26))
 have bK:=lH (hx1.under ao)
 have dL:=lH (hy1.under ao)
 have bs:=lH (hx2.under ao)
 have c_:=lH (hy2.under ao)
 clear hx1 hy1 hx2 hy2 aE bz bl au dA bM ax ao
 go_enter Tryd.func17,Tryd.ntmps17
 go_wp2_with fail
 rw [←HW.out]
 clear HW
 have p0:=av.out.cell 0
 have p1:=av.out.cell 1
 have p2:=av.out.cell 2
 have q0:=az.out.cell 0
 have q1:=az.out.cell 1
 have q2:=az.out.cell 2
 go_wp2_with fail
 refine (cmp'_any W0 _ _ A1 B1 c1 d1 l1 m1 bK.out.rd bs.out.rd z HC).mono ?_
 rintro e W1 ⟨rfl,q,hq⟩
 have hb:Below W0.heap.size W0 W1:=by rw [hq];exact bdN (Below.refl _ _) q
 have bT:=lH (bn.out.trans (hb.mono bn.out.size))
 have aw:=lH (av.out.under hb (Holds.lt av))
 have ay:=lH (az.out.under hb (Holds.lt az))
 have bC:=lH (bv.out.under hb (Holds.lt bv))
 have bD:=lH (bK.out.under hb)
 have bF:=lH (dL.out.under hb)
 have bw:=lH (bs.out.under hb)
 have bJ:=lH (c_.out.under hb)
 clear hb bn av az bv bK dL bs c_
 clear hq p0 p1 p2 q0 q1 q2
 have p0:=aw.out.cell 0
 have p1:=aw.out.cell 1
 have p2:=aw.out.cell 2
 have q0:=ay.out.cell 0
 have q1:=ay.out.cell 1
 have q2:=ay.out.cell 2
 go_wp2_with fail
 refine (slopeR_any W1 bD bF bw bJ HN dT).mono ?_
 rintro e W2 ⟨As,cs,ls,rfl,hn,hb⟩
 have bW:=lH (bT.out.trans (hb.mono bT.out.size))
 have aN:=lH (aw.out.under hb (Holds.lt aw))
 have aY:=lH (ay.out.under hb (Holds.lt ay))
 have a8:=lH (bC.out.under hb (Holds.lt bC))
 have dI:=lH (bD.out.under hb)
 have dw:=lH (bF.out.under hb)
 have cK:=lH (bw.out.under hb)
 have bY:=lH (bJ.out.under hb)
 clear hb bT aw ay bC bD bF bw bJ
 obtain ⟨sv,bR⟩:∃ v_,v_=Luc.sl x1 y1 x2 y2:=⟨_,rfl⟩
 rw [←bR] at hn
 have dO:=lH bR
 have dH:=lH hn
 clear hn bR
 clear p0 p1 p2 q0 q1 q2
 go_wp2_with fail
 refine wp_region_noPanic ?_
 refine wp_region_held_drew (S:=fun W=>Holds W w.heap.size 26 #[.slice A1 l1.length c1,.slice A2 l2.length c2,.bool false]∧Holds W (w.heap.size+1) 26 #[.slice B1 m1.length d1,.slice B2 m2.length d2,.bool false]∧True) (by kernel_rfl) (⟨aN.out,aY.out,trivial⟩) (fun ab=>?_)
 obtain ⟨W3,hV⟩:∃ W,W=W2.drew:=⟨_,rfl⟩
 rw [←hV]
 have hb:Below W2.heap.size W2 W3:=by rw [hV];exact (Below.refl _ W2).drew
 have a9:=lH (bW.out.trans (hb.mono bW.out.size))
 have aT:=lH (aN.out.under hb (Holds.lt aN))
 have aW:=lH (aY.out.under hb (Holds.lt aY))
 have bc:=lH (a8.out.under hb (Holds.lt a8))
 have cG:=lH (dI.out.under hb)
 have cN:=lH (dw.out.under hb)
 have cL:=lH (cK.out.under hb)
 have dN:=lH (bY.out.under hb)
 have aL:=lH (dH.out.under hb)
 clear hb bW aN aY a8 dI dw cK bY dH
 have dW:Hid ((fun W=>Holds W w.heap.size 26 #[.slice A1 l1.length c1,.slice A2 l2.length c2,.bool false]∧Holds W (w.heap.size+1) 26 #[.slice B1 m1.length d1,.slice B2 m2.length d2,.bool false]∧True) W3):=lH ⟨aT,aW,trivial⟩
 replace ab:(fun W=>Holds W w.heap.size 26 #[.slice A1 l1.length c1,.slice A2 l2.length c2,.bool false]∧Holds W (w.heap.size+1) 26 #[.slice B1 m1.length d1,.slice B2 m2.length d2,.bool false]∧True) W3:=dW.out
 clear hV
 refine tz 0 ⟨some 35,.move (.tmp 5),24,_,_,none⟩ rfl ab ?_
 try simp only [aP]
 refine tz 1 ⟨some 36,.move (.tmp 5),24,_,_,none⟩ rfl ab ?_
 try simp only [aP]
 refine tz 3 ⟨some 38,.fieldAddr 26 (.tmp 2) 0,0,_,_,none⟩ rfl ab ?_
 try simp only [aP]
 refine tk 4 ⟨some 39,.load 24 (.tmp 38),24,_,_,none⟩ ?_ rfl ?_ ab ?_
 rotate_left 1
 ·(intro W hW;have bI:=hW.1.cell 0;(try dsimp only at hW);go_simp;try with_reducible rfl)
 try simp only [aP]
 refine tz 6 ⟨some 41,.fieldAddr 26 (.tmp 3) 0,0,_,_,none⟩ rfl ab ?_
 try simp only [aP]
 refine tk 7 ⟨some 42,.load 24 (.tmp 41),24,_,_,none⟩ ?_ rfl ?_ ab ?_
 rotate_left 1
 ·(intro W hW;have bI:=hW.2.1.cell 0;(try dsimp only at hW);go_simp;try with_reducible rfl)
 try simp only [aP]
 refine rdy 2 ⟨some 37,.call ⟨ .value (.func 46),#[.tmp 35,.tmp 36],#[24,24]⟩,24,_,_,none⟩ rfl (fun K hK=>?_)
 go_simp
 refine (mulRF W3 aL aL).mono ?_
 rintro e W4 ⟨Ass,css,lss,rfl,hn,hb⟩
 have bf:=lH (a9.out.trans (hb.mono a9.out.size))
 have aJ:=lH (aT.out.under hb (Holds.lt aT))
 have aM:=lH (aW.out.under hb (Holds.lt aW))
 have bQ:=lH (bc.out.under hb (Holds.lt bc))
 have bH:=lH (cG.out.under hb)
 have cD:=lH (cN.out.under hb)
 have dF:=lH (cL.out.under hb)
 have bZ:=lH (dN.out.under hb)
 have dE:=lH (aL.out.under hb)
 clear hb a9 aT aW bc cG cN cL dN aL
 have ak:=lH hn
 clear hn
 have cW:Hid ((fun W=>Holds W w.heap.size 26 #[.slice A1 l1.length c1,.slice A2 l2.length c2,.bool false]∧Holds W (w.heap.size+1) 26 #[.slice B1 m1.length d1,.slice B2 m2.length d2,.bool false]∧True) W4):=lH ⟨aJ,aM,trivial⟩
 go_simp
 refine hK.out _ _ (cW.out) (fun _=>?_)
 clear hK K ab
 try simp only [aP]
 have ab:(fun W=>Holds W w.heap.size 26 #[.slice A1 l1.length c1,.slice A2 l2.length c2,.bool false]∧Holds W (w.heap.size+1) 26 #[.slice B1 m1.length d1,.slice B2 m2.length d2,.bool false]∧True) W4:=cW.out
 refine rdy 5 ⟨some 40,.call ⟨ .value (.func 48),#[.tmp 37,.tmp 39],#[24,24]⟩,24,_,_,none⟩ rfl (fun K hK=>?_)
 go_simp
 refine (subRF W4 ak bH).mono ?_
 rintro e W5 ⟨As1,cs1,ls1,rfl,hn,hb⟩
 have bd:=lH (bf.out.trans (hb.mono bf.out.size))
 have a6:=lH (aJ.out.under hb (Holds.lt aJ))
 have aV:=lH (aM.out.under hb (Holds.lt aM))
 have bE:=lH (bQ.out.under hb (Holds.lt bQ))
 have dB:=lH (bH.out.under hb)
 have cl:=lH (cD.out.under hb)
 have br:=lH (dF.out.under hb)
 have cT:=lH (bZ.out.under hb)
 have dr:=lH (dE.out.under hb)
 have aD:=lH (ak.out.under hb)
 clear hb bf aJ aM bQ bH cD dF bZ dE ak
 have am:=lH hn
 clear hn
 have cB:Hid ((fun W=>Holds W w.heap.size 26 #[.slice A1 l1.length c1,.slice A2 l2.length c2,.bool false]∧Holds W (w.heap.size+1) 26 #[.slice B1 m1.length d1,.slice B2 m2.length d2,.bool false]∧True) W5):=lH ⟨a6,aV,trivial⟩
 go_simp
 refine hK.out _ _ (cB.out) (fun _=>?_)
 clear hK K ab
 try simp only [aP]
 have ab:(fun W=>Holds W w.heap.size 26 #[.slice A1 l1.length c1,.slice A2 l2.length c2,.bool false]∧Holds W (w.heap.size+1) 26 #[.slice B1 m1.length d1,.slice B2 m2.length d2,.bool false]∧True) W5:=cB.out
 refine rdy 8 ⟨some 43,.call ⟨ .value (.func 48),#[.tmp 40,.tmp 42],#[24,24]⟩,24,_,_,none⟩ rfl (fun K hK=>?_)
 go_simp
 refine (subRF W5 am br).mono ?_
 rintro e W6 ⟨AX,cX,lX,rfl,hn,hb⟩
 have bt:=lH (bd.out.trans (hb.mono bd.out.size))
 have aA:=lH (a6.out.under hb (Holds.lt a6))
 have aF:=lH (aV.out.under hb (Holds.lt aV))
 have bL:=lH (bE.out.under hb (Holds.lt bE))
 have dt:=lH (dB.out.under hb)
 have du:=lH (cl.out.under hb)
 have dv:=lH (br.out.under hb)
 have cM:=lH (cT.out.under hb)
 have dK:=lH (dr.out.under hb)
 have bB:=lH (aD.out.under hb)
 have ba:=lH (am.out.under hb)
 clear hb bd a6 aV bE dB cl br cT dr aD am
 have dD:=lH hn
 clear hn
 have cV:Hid ((fun W=>Holds W w.heap.size 26 #[.slice A1 l1.length c1,.slice A2 l2.length c2,.bool false]∧Holds W (w.heap.size+1) 26 #[.slice B1 m1.length d1,.slice B2 m2.length d2,.bool false]∧True) W6):=lH ⟨aA,aF,trivial⟩
 go_simp
 refine hK.out _ _ (cV.out) (fun _=>?_)
 clear hK K ab
 try simp only [aP]
 have ab:(fun W=>Holds W w.heap.size 26 #[.slice A1 l1.length c1,.slice A2 l2.length c2,.bool false]∧Holds W (w.heap.size+1) 26 #[.slice B1 m1.length d1,.slice B2 m2.length d2,.bool false]∧True) W6:=cV.out
 refine tz 9 ⟨some 6,.assign (.tmp 43),24,_,_,none⟩ rfl ab ?_
 try simp only [aP]
 refine dn ?_
 clear bB ba
 go_wp2_with fail
 refine wp_region_noPanic ?_
 refine wp_region_held_drew (S:=fun W=>Holds W w.heap.size 26 #[.slice A1 l1.length c1,.slice A2 l2.length c2,.bool false]∧Holds W (w.heap.size+1) 26 #[.slice B1 m1.length d1,.slice B2 m2.length d2,.bool false]∧True) (by kernel_rfl) (⟨aA.out,aF.out,trivial⟩) (fun ab=>?_)
 obtain ⟨W7,hV⟩:∃ W,W=W6.drew:=⟨_,rfl⟩
 rw [←hV]
 have hb:Below W6.heap.size W6 W7:=by rw [hV];exact (Below.refl _ W6).drew
 have bV:=lH (bt.out.trans (hb.mono bt.out.size))
 have aR:=lH (aA.out.under hb (Holds.lt aA))
 have aQ:=lH (aF.out.under hb (Holds.lt aF))
 have bm:=lH (bL.out.under hb (Holds.lt bL))
 have bU:=lH (dt.out.under hb)
 have cH:=lH (du.out.under hb)
 have ds:=lH (dv.out.under hb)
 have dC:=lH (cM.out.under hb)
 have cA:=lH (dK.out.under hb)
 have bP:=lH (dD.out.under hb)
 clear hb bt aA aF bL dt du dv cM dK dD
 have dR:Hid ((fun W=>Holds W w.heap.size 26 #[.slice A1 l1.length c1,.slice A2 l2.length c2,.bool false]∧Holds W (w.heap.size+1) 26 #[.slice B1 m1.length d1,.slice B2 m2.length d2,.bool false]∧True) W7):=lH ⟨aR,aQ,trivial⟩
 replace ab:(fun W=>Holds W w.heap.size 26 #[.slice A1 l1.length c1,.slice A2 l2.length c2,.bool false]∧Holds W (w.heap.size+1) 26 #[.slice B1 m1.length d1,.slice B2 m2.length d2,.bool false]∧True) W7:=dR.out
 clear hV
 refine tz 0 ⟨some 44,.move (.tmp 6),24,_,_,none⟩ rfl ab ?_
 try simp only [aP]
 refine tz 1 ⟨some 45,.move (.tmp 5),24,_,_,none⟩ rfl ab ?_
 try simp only [aP]
 refine tz 2 ⟨some 46,.fieldAddr 26 (.tmp 2) 0,0,_,_,none⟩ rfl ab ?_
 try simp only [aP]
 refine tk 3 ⟨some 47,.load 24 (.tmp 46),24,_,_,none⟩ ?_ rfl ?_ ab ?_
 rotate_left 1
 ·(intro W hW;have bI:=hW.1.cell 0;(try dsimp only at hW);go_simp;try with_reducible rfl)
 try simp only [aP]
 refine tz 4 ⟨some 48,.move (.tmp 6),24,_,_,none⟩ rfl ab ?_
 try simp only [aP]
 refine tz 7 ⟨some 51,.fieldAddr 26 (.tmp 2) 1,0,_,_,none⟩ rfl ab ?_
 try simp only [aP]
 refine tk 8 ⟨some 52,.load 24 (.tmp 51),24,_,_,none⟩ ?_ rfl ?_ ab ?_
 rotate_left 1
 ·(intro W hW;have bI:=hW.1.cell 1;(try dsimp only at hW);go_simp;try with_reducible rfl)
 try simp only [aP]
 refine rdy 5 ⟨some 49,.call ⟨ .value (.func 48),#[.tmp 47,.tmp 48],#[24,24]⟩,24,_,_,none⟩ rfl (fun K hK=>?_)
 go_simp
 refine (subRF W7 bU bP).mono ?_
 rintro e W8 ⟨At1,ct1,lt1,rfl,hn,hb⟩
 have bS:=lH (bV.out.trans (hb.mono bV.out.size))
 have aX:=lH (aR.out.under hb (Holds.lt aR))
 have aK:=lH (aQ.out.under hb (Holds.lt aQ))
 have bu:=lH (bm.out.under hb (Holds.lt bm))
 have cS:=lH (bU.out.under hb)
 have cJ:=lH (cH.out.under hb)
 have cO:=lH (ds.out.under hb)
 have cE:=lH (dC.out.under hb)
 have bO:=lH (cA.out.under hb)
 have cU:=lH (bP.out.under hb)
 clear hb bV aR aQ bm bU cH ds dC cA bP
 have ae:=lH hn
 clear hn
 have dc:Hid ((fun W=>Holds W w.heap.size 26 #[.slice A1 l1.length c1,.slice A2 l2.length c2,.bool false]∧Holds W (w.heap.size+1) 26 #[.slice B1 m1.length d1,.slice B2 m2.length d2,.bool false]∧True) W8):=lH ⟨aX,aK,trivial⟩
 go_simp
 refine hK.out _ _ (dc.out) (fun _=>?_)
 clear hK K ab
 try simp only [aP]
 have ab:(fun W=>Holds W w.heap.size 26 #[.slice A1 l1.length c1,.slice A2 l2.length c2,.bool false]∧Holds W (w.heap.size+1) 26 #[.slice B1 m1.length d1,.slice B2 m2.length d2,.bool false]∧True) W8:=dc.out
 refine rdy 6 ⟨some 50,.call ⟨ .value (.func 46),#[.tmp 45,.tmp 49],#[24,24]⟩,24,_,_,none⟩ rfl (fun K hK=>?_)
 go_simp
 refine (mulRF W8 bO ae).mono ?_
 rintro e W9 ⟨At2,ct2,lt2,rfl,hn,hb⟩
 have bX:=lH (bS.out.trans (hb.mono bS.out.size))
 have aU:=lH (aX.out.under hb (Holds.lt aX))
 have aO:=lH (aK.out.under hb (Holds.lt aK))
 have bG:=lH (bu.out.under hb (Holds.lt bu))
 have cC:=lH (cS.out.under hb)
 have bx:=lH (cJ.out.under hb)
 have di:=lH (cO.out.under hb)
 have dM:=lH (cE.out.under hb)
 have b_:=lH (bO.out.under hb)
 have cF:=lH (cU.out.under hb)
 have aC:=lH (ae.out.under hb)
 clear hb bS aX aK bu cS cJ cO cE bO cU ae
 have ai:=lH hn
 clear hn
 have dJ:Hid ((fun W=>Holds W w.heap.size 26 #[.slice A1 l1.length c1,.slice A2 l2.length c2,.bool false]∧Holds W (w.heap.size+1) 26 #[.slice B1 m1.length d1,.slice B2 m2.length d2,.bool false]∧True) W9):=lH ⟨aU,aO,trivial⟩
 go_simp
 refine hK.out _ _ (dJ.out) (fun _=>?_)
 clear hK K ab
 try simp only [aP]
 have ab:(fun W=>Holds W w.heap.size 26 #[.slice A1 l1.length c1,.slice A2 l2.length c2,.bool false]∧Holds W (w.heap.size+1) 26 #[.slice B1 m1.length d1,.slice B2 m2.length d2,.bool false]∧True) W9:=dJ.out
 refine rdy 9 ⟨some 53,.call ⟨ .value (.func 48),#[.tmp 50,.tmp 52],#[24,24]⟩,24,_,_,none⟩ rfl (fun K hK=>?_)
 go_simp
 refine (subRF W9 ai bx).mono ?_
 rintro e bN ⟨AY,cY,lY,rfl,hn,hb⟩
 have bk:=lH (bX.out.trans (hb.mono bX.out.size))
 have aG:=lH (aU.out.under hb (Holds.lt aU))
 have aH:=lH (aO.out.under hb (Holds.lt aO))
 have ac:=lH (bG.out.under hb (Holds.lt bG))
 have Nx10:=lH (cC.out.under hb)
 have Ny10:=lH (bx.out.under hb)
 have Nu10:=lH (di.out.under hb)
 have Nv10:=lH (dM.out.under hb)
 have Ns10:=lH (b_.out.under hb)
 have a_:=lH (cF.out.under hb)
 have Nt110:=lH (aC.out.under hb)
 have Nt210:=lH (ai.out.under hb)
 clear hb bX aU aO bG cC bx di dM b_ cF aC ai
 have bA:=lH hn
 clear hn
 have aB:Hid ((fun W=>Holds W w.heap.size 26 #[.slice A1 l1.length c1,.slice A2 l2.length c2,.bool false]∧Holds W (w.heap.size+1) 26 #[.slice B1 m1.length d1,.slice B2 m2.length d2,.bool false]∧True) bN):=lH ⟨aG,aH,trivial⟩
 go_simp
 refine hK.out _ _ (aB.out) (fun _=>?_)
 clear hK K ab
 try simp only [aP]
 have ab:(fun W=>Holds W w.heap.size 26 #[.slice A1 l1.length c1,.slice A2 l2.length c2,.bool false]∧Holds W (w.heap.size+1) 26 #[.slice B1 m1.length d1,.slice B2 m2.length d2,.bool false]∧True) bN:=aB.out
 refine tz 10 ⟨some 54,.build 26 #[(0,.tmp 44),(1,.tmp 53)],26,_,_,none⟩ rfl ab ?_
 try simp only [aP]
 refine rdy 11 ⟨none,.store 26 (.tmp 4) (.tmp 54),0,_,_,none⟩ rfl (fun K hK=>?_)
 have r0:=ac.out.cell 0
 have r1:=ac.out.cell 1
 have r2:=ac.out.cell 2
 have dP:=ac.out.open_ 0
 have dV:=ac.out.open_ 1
 have dS:=ac.out.open_ 2
 obtain ⟨VL,hN⟩:∃ W,W=(((bN.setCell ⟨(w.heap.size+1+1),0,none⟩ (.slice AX lX.length cX)).setCell ⟨(w.heap.size+1+1),1,none⟩ (.slice AY lY.length cY)).setCell ⟨(w.heap.size+1+1),2,none⟩ (.bool false)):=⟨_,rfl⟩
 go_simp
 rw [←hN]
 have dQ:Hid (Holds VL (w.heap.size+1+1) 26 #[.slice AX lX.length cX,.slice AY lY.length cY,.bool false]):=lH (by rw [hN];exact set3 ac _ _ _)
 have dU:Hid (Below w.heap.size w VL):=lH (by rw [hN];exact below3 bk (by omega) _ _ _)
 have dl:Hid ((fun W=>Holds W w.heap.size 26 #[.slice A1 l1.length c1,.slice A2 l2.length c2,.bool false]∧Holds W (w.heap.size+1) 26 #[.slice B1 m1.length d1,.slice B2 m2.length d2,.bool false]∧True) VL):=lH ⟨by rw [hN];exact holds_aside3 aG (k:=(w.heap.size+1+1)) (by omega) _ _ _,by rw [hN];exact holds_aside3 aH (k:=(w.heap.size+1+1)) (by omega) _ _ _,trivial⟩
 have HV:Hid (PtV (some (sv*sv - x1 - x2,sv*(x1 - (sv*sv - x1 - x2)) - y1)) VL AX cX lX AY cY lY false):=lH ⟨rfl,by rw [hN];exact a_.out.store3 ac no_numsP _ _ _,by rw [hN];exact bA.out.store3 ac no_numsP _ _ _⟩
 clear hN r0 r1 r2 dP dV dS
 refine hK.out _ _ (dl.out) (fun _=>?_)
 clear hK K ab
 try simp only [aP]
 have ab:(fun W=>Holds W w.heap.size 26 #[.slice A1 l1.length c1,.slice A2 l2.length c2,.bool false]∧Holds W (w.heap.size+1) 26 #[.slice B1 m1.length d1,.slice B2 m2.length d2,.bool false]∧True) VL:=dl.out
 refine dn ?_
 go_wp2_with fail
 have HT:Hid (PtV (some (Luc.third (Luc.sl x1 y1 x2 y2) x1 y1 x2 y2)) VL AX cX lX AY cY lY false):=lH (by rw [←dO.out];exact HV.out)
 exact ret_pt (g:=w.heap.size+1+1) rfl rfl dQ rfl ⟨AX,cX,lX,AY,cY,lY,false,rfl,HT,dU⟩
theorem addRP (w:World) {P Q:Luc.Pt} {A1 A2 B1 B2:Option Addr} {c1 c2 d1 d2:Nat} {l1 l2 m1 m2:List Nat} {inf jnf:Bool} (hp:PtV P w A1 c1 l1 A2 c2 l2 inf) (hq:PtV Q w B1 d1 m1 B2 d2 m2 jnf) (ho:Luc.OnC P) (ho2:Luc.OnC Q) :
  Calls Tryd.prog 17 #[.agg #[.slice A1 l1.length c1,.slice A2 l2.length c2,.bool inf],.agg #[.slice B1 m1.length d1,.slice B2 m2.length d2,.bool jnf]] w (PtR (Luc.add P Q) w):=by
 rcases P with _ | ⟨x1,y1⟩
 ·obtain rfl:inf=true:=hp.inf
  refine (addR_left w A1 A2 B1 B2 _ c1 _ c2 _ d1 _ d2 jnf).mono ?_
  rintro e w' ⟨rfl,hb⟩
  exact ⟨_,_,m1,_,_,m2,jnf,rfl,hq.under hb,hb⟩
 obtain rfl:inf=false:=hp.inf
 rcases Q with _ | ⟨x2,y2⟩
 ·obtain rfl:jnf=true:=hq.inf
  refine (addR_right w A1 A2 B1 B2 _ c1 _ c2 _ d1 _ d2).mono ?_
  rintro e w' ⟨rfl,hb⟩
  exact ⟨_,_,l1,_,_,l2,false,rfl,hp.under hb,hb⟩
 obtain rfl:jnf=false:=hq.inf
 have h1:Luc.On x1 y1:=ho
 have h2:Luc.On x2 y2:=ho2
 by_cases hop:x1=x2∧y1+y2=0
 ·rw [Luc.add_opp hop]
  exact addR_opp w hp.x hp.y hq.x hq.y hop.1 hop.2
 ·have ha:Luc.add (some (x1,y1)) (some (x2,y2))=some (Luc.third (Luc.sl x1 y1 x2 y2) x1 y1 x2 y2):=by
   show (if _ then _ else _)=_
   rw [if_neg hop]
  rw [ha]
  by_cases hx:x1=x2
  ·have hy:y1+y2≠0:=fun e=>hop ⟨hx,e⟩
   refine addR_same w hp.x hp.y hq.x hq.y hx hy ?_
   have hz:y1 - y2=0:=Luc.zero_of (x:=y1+y2) (by unfold Luc.On at h1 h2;rw [←hx] at h2;clear ha hp hq hop hy;grind) hy
   grind
  ·exact addR_far w hp.x hp.y hq.x hq.y hx
end Go.Proofs.YtflfdglpljodbaaDoor
