/-
  The document: the slope of two points.
-/
import Derived.Test.YtflfdglpljodbaaDoorGCvF
import Derived.Deep.RegionLaw
import Derived.Deep.RegionHeld3
import Derived.Deep.DrawnRows
set_option maxRecDepth 100000
set_option maxHeartbeats 8000000
namespace Go.Proofs.YtflfdglpljodbaaDoor
open Go.RowKit
set_option linter.unusedVariables false
set_option linter.unusedSimpArgs false
theorem cmp_ne {l m:List Nat} {f g:Luc.F} (h:NumIs l f.val) (h':NumIs m g.val) (hn:f≠g):∃ z:Int,cmpL l m=z∧z≠0:=by
 refine ⟨_,rfl,fun e=>hn (Fin.ext ?_)⟩
 rw [cmpL_val h.1 h'.1 h.2.1 h'.2.1,h.2.2,h'.2.2] at e
 split at e
 ·cases e
 ·split at e
  ·cases e
  ·omega
theorem sameR_no (w:World) {x1 y1 x2 y2:Luc.F} {A1 A2 B1 B2:Option Addr} {c1 c2 d1 d2:Nat} {l1 l2 m1 m2:List Nat} (hx1:NR w A1 c1 l1 x1) (hy1:NR w A2 c2 l2 y1) (hx2:NR w B1 d1 m1 x2) (hy2:NR w B2 d2 m2 y2) (hne:¬ (x1=x2∧y1=y2)) :
  Calls Tryd.prog 16 #[.agg #[.slice A1 l1.length c1,.slice A2 l2.length c2,.bool false],.agg #[.slice B1 m1.length d1,.slice B2 m2.length d2,.bool false]] w fun e w'=>e = .returned (.bool false)∧Below w.heap.size w w':=by
 obtain ⟨w1,ai⟩:∃ W,W=w.alloc (.cells #[.slice A1 l1.length c1,.slice A2 l2.length c2,.bool false] 26):=⟨_,rfl⟩
 have ay:w1.heap.size=w.heap.size+1:=by rw [ai];simp
 have aw:Below w.heap.size w w1:=by rw [ai];exact (Below.refl _ _).alloc (Nat.le_refl _) _
 obtain ⟨W0,am⟩:∃ W,W=w1.alloc (.cells #[.slice B1 m1.length d1,.slice B2 m2.length d2,.bool false] 26):=⟨_,rfl⟩
 have ae:Below w.heap.size w W0:=by rw [am];exact aw.alloc aw.size _
 have ab:Hid (Holds W0 w.heap.size 26 #[.slice A1 l1.length c1,.slice A2 l2.length c2,.bool false]):=lH (by rw [am,ai];exact (Holds.fresh w _ _).alloc _)
 have ac:Hid (Holds W0 (w.heap.size+1) 26 #[.slice B1 m1.length d1,.slice B2 m2.length d2,.bool false]):=lH (by rw [am,←ay];exact Holds.fresh w1 _ _)
 have ax:=lH ae
 have HW:=lH (ai ▸ am:W0=(w.alloc (.cells #[.slice A1 l1.length c1,.slice A2 l2.length c2,.bool false] 26)).alloc (.cells #[.slice B1 m1.length d1,.slice B2 m2.length d2,.bool false] 26))
 have X1:=lH (hx1.rd.under ae)
 have X2:=lH (hx2.rd.under ae)
 have Y1:=lH (hy1.rd.under ae)
 have Y2:=lH (hy2.rd.under ae)
 have K1:=lH hx1.num
 have K2:=lH hx2.num
 have L1:=lH hy1.num
 have L2:=lH hy2.num
 clear hx1 hy1 hx2 hy2 ai ay aw am ae
 by_cases hx:x1=x2
 ·have hy:y1≠y2:=fun e=>hne ⟨hx,e⟩
  have hl:l1=m1:=num_one K1 (hx ▸ K2)
  subst hl
  obtain ⟨z,hz,ak⟩:=cmp_ne L1 L2 hy
  have HZ:=lH hz
  have tz:(z == 0)=false:=beq_eq_false_iff_ne.2 ak
  have aA:decide (z=0)=false:=decide_eq_false ak
  clear hz hne hx hy
  go_enter Tryd.func16,Tryd.ntmps16
  go_wp2_with fail
  rw [←HW.out]
  have p0:=ab.out.cell 0
  have p1:=ab.out.cell 1
  have p2:=ab.out.cell 2
  have q0:=ac.out.cell 0
  have q1:=ac.out.cell 1
  have q2:=ac.out.cell 2
  go_wp2_with fail
  refine (cmp'_any W0 _ _ A1 B1 c1 d1 l1 l1 X1 X2 0 (cmp_self K1)).mono ?_
  rintro e W1 ⟨rfl,q,hq⟩
  have ao:Hid (Holds W1 w.heap.size 26 #[.slice A1 l1.length c1,.slice A2 l2.length c2,.bool false]):=lH (by rw [hq];exact ab.out)
  have au:Hid (Holds W1 (w.heap.size+1) 26 #[.slice B1 l1.length d1,.slice B2 m2.length d2,.bool false]):=lH (by rw [hq];exact ac.out)
  have Z1:Hid (Rd .u32 W1 w.heap.size A2 c2 l2):=lH (by rw [hq];exact Y1.out.drewN q)
  have Z2:Hid (Rd .u32 W1 w.heap.size B2 d2 m2):=lH (by rw [hq];exact Y2.out.drewN q)
  have av:Hid (Below w.heap.size w W1):=lH (by rw [hq];exact bdN ax q)
  clear hq p0 p1 p2 q0 q1 q2
  have p0:=ao.out.cell 0
  have p1:=ao.out.cell 1
  have p2:=ao.out.cell 2
  have q0:=au.out.cell 0
  have q1:=au.out.cell 1
  have q2:=au.out.cell 2
  go_wp2_with fail
  refine (cmp'_any W1 _ _ A2 B2 c2 d2 l2 m2 Z1 Z2 z HZ).mono ?_
  rintro e W2 ⟨rfl,q,hq⟩
  have az:Hid (Below w.heap.size w W2):=lH (by rw [hq];exact bdN av q)
  clear hq p0 p1 p2 q0 q1 q2
  go_wp2_with fail
  go_ret
  exact ⟨rfl,az⟩
 ·obtain ⟨z,hz,ak⟩:=cmp_ne K1 K2 hx
  have HZ:=lH hz
  have tz:(z == 0)=false:=beq_eq_false_iff_ne.2 ak
  have aA:decide (z=0)=false:=decide_eq_false ak
  clear hz hne hx
  go_enter Tryd.func16,Tryd.ntmps16
  go_wp2_with fail
  rw [←HW.out]
  have p0:=ab.out.cell 0
  have p1:=ab.out.cell 1
  have p2:=ab.out.cell 2
  have q0:=ac.out.cell 0
  have q1:=ac.out.cell 1
  have q2:=ac.out.cell 2
  go_wp2_with fail
  refine (cmp'_any W0 _ _ A1 B1 c1 d1 l1 m1 X1 X2 z HZ).mono ?_
  rintro e W1 ⟨rfl,q,hq⟩
  have av:Hid (Below w.heap.size w W1):=lH (by rw [hq];exact bdN ax q)
  clear hq p0 p1 p2 q0 q1 q2
  go_wp2_with fail
  go_ret
  exact ⟨rfl,av⟩
theorem sl_far {x1 y1 x2 y2:Luc.F} (h:x1≠x2):(y1 - y2)*Luc.finv (x1 - x2)=Luc.sl x1 y1 x2 y2:=by
 unfold Luc.sl
 rw [if_neg h]
 have h1:x1 - x2≠0:=fun e=>h (by grind)
 have h2:x2 - x1≠0:=fun e=>h (by grind)
 have i1:=Luc.mul_finv h1
 have i2:=Luc.mul_finv h2
 refine Luc.cancel h1 ?_
 grind
theorem sl_near (x1 y1:Luc.F):(x1*x1+(x1*x1+x1*x1) - 3)*Luc.finv (y1+y1)=Luc.sl x1 y1 x1 y1:=by
 unfold Luc.sl
 rw [if_pos rfl]
 have e1:x1*x1+(x1*x1+x1*x1) - 3=3*x1*x1 - 3:=by grind
 have e2:y1+y1=2*y1:=by grind
 rw [e1,e2]
theorem slopeR_any (w:World) {x1 y1 x2 y2:Luc.F} {A1 A2 B1 B2:Option Addr} {c1 c2 d1 d2:Nat} {l1 l2 m1 m2:List Nat} (hx1:NR w A1 c1 l1 x1) (hy1:NR w A2 c2 l2 y1) (hx2:NR w B1 d1 m1 x2) (hy2:NR w B2 d2 m2 y2) (hn:¬ (x1=x2∧y1+y2=0)) (h12:x1=x2→y1=y2) :
  Calls Tryd.prog 51 #[.agg #[.slice A1 l1.length c1,.slice A2 l2.length c2,.bool false],.agg #[.slice B1 m1.length d1,.slice B2 m2.length d2,.bool false]] w (GotF w (Luc.sl x1 y1 x2 y2)):=by
 obtain ⟨w1,jM⟩:∃ W,W=w.alloc (.cells #[.slice A1 l1.length c1,.slice A2 l2.length c2,.bool false] 26):=⟨_,rfl⟩
 have km:w1.heap.size=w.heap.size+1:=by rw [jM];simp
 have kd:Below w.heap.size w w1:=by rw [jM];exact (Below.refl _ _).alloc (Nat.le_refl _) _
 obtain ⟨W0,jz⟩:∃ W,W=w1.alloc (.cells #[.slice B1 m1.length d1,.slice B2 m2.length d2,.bool false] 26):=⟨_,rfl⟩
 have jp:Below w.heap.size w W0:=by rw [jz];exact kd.alloc kd.size _
 have iN:Hid (Holds W0 w.heap.size 26 #[.slice A1 l1.length c1,.slice A2 l2.length c2,.bool false]):=lH (by rw [jz,jM];exact (Holds.fresh w _ _).alloc _)
 have iG:Hid (Holds W0 (w.heap.size+1) 26 #[.slice B1 m1.length d1,.slice B2 m2.length d2,.bool false]):=lH (by rw [jz,←km];exact Holds.fresh w1 _ _)
 have jo:=lH jp
 have HW:=lH (jM ▸ jz:W0=(w.alloc (.cells #[.slice A1 l1.length c1,.slice A2 l2.length c2,.bool false] 26)).alloc (.cells #[.slice B1 m1.length d1,.slice B2 m2.length d2,.bool false] 26))
 have j9:=lH (hx1.under jp)
 have kb:=lH (hy1.under jp)
 have j_:=lH (hx2.under jp)
 have ka:=lH (hy2.under jp)
 clear hx1 hy1 hx2 hy2 jM km kd jz jp
 by_cases hx:x1=x2
 ·have hy:=h12 hx
  have kw:=lH hx.symm
  have kv:=lH hy.symm
  have jA:Hid (y1+y1≠0):=lH fun e=>hn ⟨hx,by rw [←hy];exact e⟩
  have j5:Hid ((x1*x1+(x1*x1+x1*x1) - 3)*Luc.finv (y1+y1)=Luc.sl x1 y1 x2 y2):=lH (by rw [←hx,←hy];exact sl_near x1 y1)
  clear hn h12 hx hy
  go_enter Tryd.func51,Tryd.ntmps51
  go_wp2_with fail
  rw [←HW.out]
  clear HW
  go_wp2_with fail
  refine wp_region_noPanic ?_
  refine wp_region_held_drew (S:=fun W=>Holds W w.heap.size 26 #[.slice A1 l1.length c1,.slice A2 l2.length c2,.bool false]∧Holds W (w.heap.size+1) 26 #[.slice B1 m1.length d1,.slice B2 m2.length d2,.bool false]∧True) (by kernel_rfl) (⟨iN.out,iG.out,trivial⟩) (fun ab=>?_)
  obtain ⟨W1,hV⟩:∃ W,W=W0.drew:=⟨_,rfl⟩
  rw [←hV]
  have hb:Below W0.heap.size W0 W1:=by rw [hV];exact (Below.refl _ W0).drew
  have i7:=lH (jo.out.trans (hb.mono jo.out.size))
  have hI:=lH (iN.out.under hb (Holds.lt iN))
  have io:=lH (iG.out.under hb (Holds.lt iG))
  have jQ:=lH (j9.out.under hb)
  have jh:=lH (kb.out.under hb)
  have jr:=lH (j_.out.under hb)
  have i4:=lH (ka.out.under hb)
  clear hb jo iN iG j9 kb j_ ka
  have kf:Hid ((fun W=>Holds W w.heap.size 26 #[.slice A1 l1.length c1,.slice A2 l2.length c2,.bool false]∧Holds W (w.heap.size+1) 26 #[.slice B1 m1.length d1,.slice B2 m2.length d2,.bool false]∧True) W1):=lH ⟨hI,io,trivial⟩
  replace ab:(fun W=>Holds W w.heap.size 26 #[.slice A1 l1.length c1,.slice A2 l2.length c2,.bool false]∧Holds W (w.heap.size+1) 26 #[.slice B1 m1.length d1,.slice B2 m2.length d2,.bool false]∧True) W1:=kf.out
  clear hV
  refine tz 0 ⟨some 9,.fieldAddr 26 (.tmp 2) 1,0,_,_,none⟩ rfl ab ?_
  try simp only [aP]
  refine tk 1 ⟨some 10,.load 24 (.tmp 9),24,_,_,none⟩ ?_ rfl ?_ ab ?_
  rotate_left 1
  ·(intro W hW;have gS:=hW.1.cell 1;(try dsimp only at hW);go_simp;try with_reducible rfl)
  try simp only [aP]
  refine tz 2 ⟨some 11,.fieldAddr 26 (.tmp 3) 1,0,_,_,none⟩ rfl ab ?_
  try simp only [aP]
  refine tk 3 ⟨some 12,.load 24 (.tmp 11),24,_,_,none⟩ ?_ rfl ?_ ab ?_
  rotate_left 1
  ·(intro W hW;have gS:=hW.2.1.cell 1;(try dsimp only at hW);go_simp;try with_reducible rfl)
  try simp only [aP]
  refine tz 5 ⟨some 14,.fieldAddr 26 (.tmp 2) 0,0,_,_,none⟩ rfl ab ?_
  try simp only [aP]
  refine tk 6 ⟨some 15,.load 24 (.tmp 14),24,_,_,none⟩ ?_ rfl ?_ ab ?_
  rotate_left 1
  ·(intro W hW;have gS:=hW.1.cell 0;(try dsimp only at hW);go_simp;try with_reducible rfl)
  try simp only [aP]
  refine tz 7 ⟨some 16,.fieldAddr 26 (.tmp 3) 0,0,_,_,none⟩ rfl ab ?_
  try simp only [aP]
  refine tk 8 ⟨some 17,.load 24 (.tmp 16),24,_,_,none⟩ ?_ rfl ?_ ab ?_
  rotate_left 1
  ·(intro W hW;have gS:=hW.2.1.cell 0;(try dsimp only at hW);go_simp;try with_reducible rfl)
  try simp only [aP]
  refine rdy 4 ⟨some 13,.call ⟨ .value (.func 48),#[.tmp 10,.tmp 12],#[24,24]⟩,24,_,_,none⟩ rfl (fun K hK=>?_)
  go_simp
  refine (subRF W1 jh i4).mono ?_
  rintro e W2 ⟨kn,kt,kA,rfl,hn,hb⟩
  have i8:=lH (i7.out.trans (hb.mono i7.out.size))
  have il:=lH (hI.out.under hb (Holds.lt hI))
  have h_:=lH (io.out.under hb (Holds.lt io))
  have i6:=lH (jQ.out.under hb)
  have jF:=lH (jh.out.under hb)
  have jc:=lH (jr.out.under hb)
  have jH:=lH (i4.out.under hb)
  clear hb i7 hI io jQ jh jr i4
  have gJ:=lH hn
  clear hn
  have jD:Hid ((fun W=>Holds W w.heap.size 26 #[.slice A1 l1.length c1,.slice A2 l2.length c2,.bool false]∧Holds W (w.heap.size+1) 26 #[.slice B1 m1.length d1,.slice B2 m2.length d2,.bool false]∧True) W2):=lH ⟨il,h_,trivial⟩
  go_simp
  refine hK.out _ _ (jD.out) (fun _=>?_)
  clear hK K ab
  try simp only [aP]
  have ab:(fun W=>Holds W w.heap.size 26 #[.slice A1 l1.length c1,.slice A2 l2.length c2,.bool false]∧Holds W (w.heap.size+1) 26 #[.slice B1 m1.length d1,.slice B2 m2.length d2,.bool false]∧True) W2:=jD.out
  refine rdy 9 ⟨some 18,.call ⟨ .value (.func 48),#[.tmp 15,.tmp 17],#[24,24]⟩,24,_,_,none⟩ rfl (fun K hK=>?_)
  go_simp
  refine (subRF W2 i6 jc).mono ?_
  rintro e W3 ⟨ks,ku,kz,rfl,hn,hb⟩
  have iX:=lH (i8.out.trans (hb.mono i8.out.size))
  have eY:=lH (il.out.under hb (Holds.lt il))
  have eR:=lH (h_.out.under hb (Holds.lt h_))
  have jb:=lH (i6.out.under hb)
  have iT:=lH (jF.out.under hb)
  have iZ:=lH (jc.out.under hb)
  have i9:=lH (jH.out.under hb)
  have gR:=lH (gJ.out.under hb)
  clear hb i8 il h_ i6 jF jc jH gJ
  have fW:=lH hn
  clear hn
  have jx:Hid ((fun W=>Holds W w.heap.size 26 #[.slice A1 l1.length c1,.slice A2 l2.length c2,.bool false]∧Holds W (w.heap.size+1) 26 #[.slice B1 m1.length d1,.slice B2 m2.length d2,.bool false]∧True) W3):=lH ⟨eY,eR,trivial⟩
  go_simp
  refine hK.out _ _ (jx.out) (fun _=>?_)
  clear hK K ab
  try simp only [aP]
  have ab:(fun W=>Holds W w.heap.size 26 #[.slice A1 l1.length c1,.slice A2 l2.length c2,.bool false]∧Holds W (w.heap.size+1) 26 #[.slice B1 m1.length d1,.slice B2 m2.length d2,.bool false]∧True) W3:=jx.out
  refine tz 10 ⟨some 5,.assign (.tmp 13),24,_,_,none⟩ rfl ab ?_
  try simp only [aP]
  refine tz 11 ⟨some 6,.assign (.tmp 18),24,_,_,none⟩ rfl ab ?_
  try simp only [aP]
  refine dn ?_
  have p0:=eY.out.cell 0
  have p1:=eY.out.cell 1
  have p2:=eY.out.cell 2
  have q0:=eR.out.cell 0
  have q1:=eR.out.cell 1
  have q2:=eR.out.cell 2
  go_wp2_with fail
  refine (sameRP W3 (Q:=some (x1,y1)) ⟨rfl,jb,iT⟩ ⟨rfl,kw ▸ iZ,kv ▸ i9⟩).mono ?_
  rintro e W4 ⟨rfl,hb⟩
  have ja:=lH (iX.out.trans (hb.mono iX.out.size))
  have iD:=lH (eY.out.under hb (Holds.lt eY))
  have iJ:=lH (eR.out.under hb (Holds.lt eR))
  have jv:=lH (jb.out.under hb)
  have jL:=lH (iT.out.under hb)
  have j4:=lH (iZ.out.under hb)
  have jy:=lH (i9.out.under hb)
  have gN:=lH (gR.out.under hb)
  have fZ:=lH (fW.out.under hb)
  clear hb iX eY eR jb iT iZ i9 gR fW
  clear p0 p1 p2 q0 q1 q2
  go_wp2_with fail
  refine wp_region_noPanic ?_
  refine wp_region_held_drew (S:=fun W=>Holds W w.heap.size 26 #[.slice A1 l1.length c1,.slice A2 l2.length c2,.bool false]∧Holds W (w.heap.size+1) 26 #[.slice B1 m1.length d1,.slice B2 m2.length d2,.bool false]∧True) (by kernel_rfl) (⟨iD.out,iJ.out,trivial⟩) (fun ab=>?_)
  obtain ⟨W5,hV⟩:∃ W,W=W4.drew:=⟨_,rfl⟩
  rw [←hV]
  have hb:Below W4.heap.size W4 W5:=by rw [hV];exact (Below.refl _ W4).drew
  have jl:=lH (ja.out.trans (hb.mono ja.out.size))
  have iV:=lH (iD.out.under hb (Holds.lt iD))
  have jj:=lH (iJ.out.under hb (Holds.lt iJ))
  have jn:=lH (jv.out.under hb)
  have j7:=lH (jL.out.under hb)
  have j6:=lH (j4.out.under hb)
  have j8:=lH (jy.out.under hb)
  have ir:=lH (gN.out.under hb)
  have gZ:=lH (fZ.out.under hb)
  clear hb ja iD iJ jv jL j4 jy gN fZ
  have ko:Hid ((fun W=>Holds W w.heap.size 26 #[.slice A1 l1.length c1,.slice A2 l2.length c2,.bool false]∧Holds W (w.heap.size+1) 26 #[.slice B1 m1.length d1,.slice B2 m2.length d2,.bool false]∧True) W5):=lH ⟨iV,jj,trivial⟩
  replace ab:(fun W=>Holds W w.heap.size 26 #[.slice A1 l1.length c1,.slice A2 l2.length c2,.bool false]∧Holds W (w.heap.size+1) 26 #[.slice B1 m1.length d1,.slice B2 m2.length d2,.bool false]∧True) W5:=ko.out
  clear hV
  refine tz 0 ⟨some 22,.fieldAddr 26 (.tmp 2) 0,0,_,_,none⟩ rfl ab ?_
  try simp only [aP]
  refine tk 1 ⟨some 23,.load 24 (.tmp 22),24,_,_,none⟩ ?_ rfl ?_ ab ?_
  rotate_left 1
  ·(intro W hW;have gS:=hW.1.cell 0;(try dsimp only at hW);go_simp;try with_reducible rfl)
  try simp only [aP]
  refine tz 2 ⟨some 24,.fieldAddr 26 (.tmp 2) 0,0,_,_,none⟩ rfl ab ?_
  try simp only [aP]
  refine tk 3 ⟨some 25,.load 24 (.tmp 24),24,_,_,none⟩ ?_ rfl ?_ ab ?_
  rotate_left 1
  ·(intro W hW;have gS:=hW.1.cell 0;(try dsimp only at hW);go_simp;try with_reducible rfl)
  try simp only [aP]
  refine tz 8 ⟨some 30,.fieldAddr 26 (.tmp 2) 1,0,_,_,none⟩ rfl ab ?_
  try simp only [aP]
  refine tk 9 ⟨some 31,.load 24 (.tmp 30),24,_,_,none⟩ ?_ rfl ?_ ab ?_
  rotate_left 1
  ·(intro W hW;have gS:=hW.1.cell 1;(try dsimp only at hW);go_simp;try with_reducible rfl)
  try simp only [aP]
  refine tz 10 ⟨some 32,.fieldAddr 26 (.tmp 2) 1,0,_,_,none⟩ rfl ab ?_
  try simp only [aP]
  refine tk 11 ⟨some 33,.load 24 (.tmp 32),24,_,_,none⟩ ?_ rfl ?_ ab ?_
  rotate_left 1
  ·(intro W hW;have gS:=hW.1.cell 1;(try dsimp only at hW);go_simp;try with_reducible rfl)
  try simp only [aP]
  refine wpAnyH_ready (rs:=[4,6]) (by kernel_rfl) (by simp) ?_
  refine AllReadyH.cons (o:=⟨some 26,.call ⟨ .value (.func 46),#[.tmp 23,.tmp 25],#[24,24]⟩,24,_,_,none⟩) rfl (fun K hK=>?_) ?_
  ·go_simp
   refine (mulRF W5 jn jn).mono ?_
   rintro e jm ⟨ky,kq,kB,rfl,hn,hb⟩
   have eB:=lH hn
   clear hn
   have fO:=lH (jl.out.trans (hb.mono jl.out.size))
   have eO:=lH (iV.out.under hb (Holds.lt iV))
   have eU:=lH (jj.out.under hb (Holds.lt jj))
   have im:=lH (jn.out.under hb)
   have id:=lH (j7.out.under hb)
   have ik:=lH (j6.out.under hb)
   have hM:=lH (j8.out.under hb)
   have fw:=lH (ir.out.under hb)
   have fb:=lH (gZ.out.under hb)
   clear hb jl iV jj jn j7 j6 j8 ir gZ
   have kh:Hid ((fun W=>Holds W w.heap.size 26 #[.slice A1 l1.length c1,.slice A2 l2.length c2,.bool false]∧Holds W (w.heap.size+1) 26 #[.slice B1 m1.length d1,.slice B2 m2.length d2,.bool false]∧True) jm):=lH ⟨eO,eU,trivial⟩
   go_simp
   refine hK.out _ _ (kh.out) (fun ab=>?_)
   clear hK K
   try simp only [aP]
   refine wpAnyH_ready (rs:=[5,6]) (by kernel_rfl) (by simp) ?_
   refine AllReadyH.cons (o:=⟨some 27,.call ⟨ .value (.func 49),#[.tmp 26],#[24]⟩,24,_,_,none⟩) rfl (fun K hK=>?_) ?_
   ·go_simp
    refine (threeRF jm eB).mono ?_
    rintro e gH ⟨kk,ki,kj,rfl,hn,hb⟩
    have gU:=lH hn
    clear hn
    have gK:=lH (fO.out.trans (hb.mono fO.out.size))
    have fF:=lH (eO.out.under hb (Holds.lt eO))
    have e9:=lH (eU.out.under hb (Holds.lt eU))
    have iz:=lH (im.out.under hb)
    have iC:=lH (id.out.under hb)
    have iK:=lH (ik.out.under hb)
    have iv:=lH (hM.out.under hb)
    have gB:=lH (fw.out.under hb)
    have fX:=lH (fb.out.under hb)
    have gg:=lH (eB.out.under hb)
    clear hb fO eO eU im id ik hM fw fb eB
    have jE:Hid ((fun W=>Holds W w.heap.size 26 #[.slice A1 l1.length c1,.slice A2 l2.length c2,.bool false]∧Holds W (w.heap.size+1) 26 #[.slice B1 m1.length d1,.slice B2 m2.length d2,.bool false]∧True) gH):=lH ⟨fF,e9,trivial⟩
    go_simp
    refine hK.out _ _ (jE.out) (fun ab=>?_)
    clear hK K
    try simp only [aP]
    refine rdy 6 ⟨some 28,.buildSlice 24 1 #[(0,.const (.int .u32 3))],24,_,_,none⟩ rfl (fun K hK=>?_)
    obtain ⟨eJ,hN⟩:∃ W,W=gH.alloc (.cells #[.int .u32 3] 22):=⟨_,rfl⟩
    go_simp
    rw [←hN]
    have hb:Below gH.heap.size gH eJ:=by rw [hN];exact (Below.refl _ _).alloc (Nat.le_refl _) _
    obtain ⟨s3,gV⟩:∃ s,s=gH.heap.size:=⟨_,rfl⟩
    rw [←gV]
    have h3:NR eJ (some ⟨s3,0,none⟩) 1 [3] 3:=⟨by
     have hr:Row .u32 22 eJ s3 [3]:=by rw [hN,gV];exact Holds.fresh _ _ _
     exact (rd_whole (c:=1) hr (by simp) (by omega)).more (Holds.lt hr),⟨fun x hx=>by rw [List.mem_singleton.1 hx];decide,.inr (by decide),by decide⟩⟩
    have eS:=lH h3
    clear hN gV h3
    have eN:=lH (gK.out.trans (hb.mono gK.out.size))
    have dW:=lH (fF.out.under hb (Holds.lt fF))
    have d7:=lH (e9.out.under hb (Holds.lt e9))
    have fY:=lH (iz.out.under hb)
    have gF:=lH (iC.out.under hb)
    have gt:=lH (iK.out.under hb)
    have gM:=lH (iv.out.under hb)
    have fD:=lH (gB.out.under hb)
    have e_:=lH (fX.out.under hb)
    have ft:=lH (gg.out.under hb)
    have dX:=lH (gU.out.under hb)
    clear hb gK fF e9 iz iC iK iv gB fX gg gU
    have iW:Hid ((fun W=>Holds W w.heap.size 26 #[.slice A1 l1.length c1,.slice A2 l2.length c2,.bool false]∧Holds W (w.heap.size+1) 26 #[.slice B1 m1.length d1,.slice B2 m2.length d2,.bool false]∧True) eJ):=lH ⟨dW,d7,trivial⟩
    refine hK.out _ _ (iW.out) (fun ab=>?_)
    clear hK K
    try simp only [aP]
    refine rdy 7 ⟨some 29,.call ⟨ .value (.func 48),#[.tmp 27,.tmp 28],#[24,24]⟩,24,_,_,none⟩ rfl (fun K hK=>?_)
    go_simp
    refine (subRF eJ dX eS).mono ?_
    rintro e f9 ⟨jJ,jW,jG,rfl,hn,hb⟩
    have cF:=lH hn
    clear hn
    have d8:=lH (eN.out.trans (hb.mono eN.out.size))
    have bk:=lH (dW.out.under hb (Holds.lt dW))
    have bl:=lH (d7.out.under hb (Holds.lt d7))
    have fA:=lH (fY.out.under hb)
    have bf:=lH (gF.out.under hb)
    have fi:=lH (gt.out.under hb)
    have fK:=lH (gM.out.under hb)
    have ee:=lH (fD.out.under hb)
    have ei:=lH (e_.out.under hb)
    have eG:=lH (ft.out.under hb)
    have ef:=lH (dX.out.under hb)
    have fh:=lH (eS.out.under hb)
    clear hb eN dW d7 fY gF gt gM fD e_ ft dX eS
    have ic:Hid ((fun W=>Holds W w.heap.size 26 #[.slice A1 l1.length c1,.slice A2 l2.length c2,.bool false]∧Holds W (w.heap.size+1) 26 #[.slice B1 m1.length d1,.slice B2 m2.length d2,.bool false]∧True) f9):=lH ⟨bk,bl,trivial⟩
    go_simp
    refine hK.out _ _ (ic.out) (fun ab=>?_)
    clear hK K
    try simp only [aP]
    refine rdy 12 ⟨some 34,.call ⟨ .value (.func 47),#[.tmp 31,.tmp 33],#[24,24]⟩,24,_,_,none⟩ rfl (fun K hK=>?_)
    go_simp
    refine (addRF f9 bf bf).mono ?_
    rintro e fj ⟨jN,jB,jX,rfl,hn,hb⟩
    have bX:=lH hn
    clear hn
    have bR:=lH (d8.out.trans (hb.mono d8.out.size))
    have ax:=lH (bk.out.under hb (Holds.lt bk))
    have ay:=lH (bl.out.under hb (Holds.lt bl))
    have eM:=lH (fA.out.under hb)
    have eD:=lH (bf.out.under hb)
    have d_:=lH (fi.out.under hb)
    have eC:=lH (fK.out.under hb)
    have dD:=lH (ee.out.under hb)
    have cT:=lH (ei.out.under hb)
    have cH:=lH (eG.out.under hb)
    have cB:=lH (ef.out.under hb)
    have ez:=lH (fh.out.under hb)
    have bL:=lH (cF.out.under hb)
    clear hb d8 bk bl fA bf fi fK ee ei eG ef fh cF
    have gj:Hid ((fun W=>Holds W w.heap.size 26 #[.slice A1 l1.length c1,.slice A2 l2.length c2,.bool false]∧Holds W (w.heap.size+1) 26 #[.slice B1 m1.length d1,.slice B2 m2.length d2,.bool false]∧True) fj):=lH ⟨ax,ay,trivial⟩
    go_simp
    refine hK.out _ _ (gj.out) (fun ab=>?_)
    clear hK K
    try simp only [aP]
    refine tz 13 ⟨some 5,.assign (.tmp 29),24,_,_,none⟩ rfl ab ?_
    try simp only [aP]
    refine tz 14 ⟨some 6,.assign (.tmp 34),24,_,_,none⟩ rfl ab ?_
    try simp only [aP]
    refine dn ?_
    go_wp2_with fail
    refine (refP_any fj).mono ?_
    rintro e gw ⟨gn,jf,rfl,hN,hb⟩
    have aH:=lH (bR.out.trans (hb.mono bR.out.size))
    have aA:=lH (ax.out.under hb (Holds.lt ax))
    have aM:=lH (ay.out.under hb (Holds.lt ay))
    have dH:=lH (eM.out.under hb)
    have cM:=lH (eD.out.under hb)
    have cD:=lH (d_.out.under hb)
    have du:=lH (eC.out.under hb)
    have bZ:=lH (dD.out.under hb)
    have bD:=lH (cT.out.under hb)
    have bW:=lH (cH.out.under hb)
    have bP:=lH (cB.out.under hb)
    have cJ:=lH (ez.out.under hb)
    have a_:=lH (bL.out.under hb)
    have ae:=lH (bX.out.under hb)
    clear hb bR ax ay eM eD d_ eC dD cT cH cB ez bL bX
    have dl:=lH hN
    clear hN jf
    go_wp2_with fail
    refine (invRF gw ae jA dl).mono ?_
    rintro e gI ⟨Ai,ci,li,rfl,hn,hb⟩
    have aO:=lH (aH.out.trans (hb.mono aH.out.size))
    have aL:=lH (aA.out.under hb (Holds.lt aA))
    have aU:=lH (aM.out.under hb (Holds.lt aM))
    have cW:=lH (dH.out.under hb)
    have dr:=lH (cM.out.under hb)
    have dK:=lH (cD.out.under hb)
    have ds:=lH (du.out.under hb)
    have bJ:=lH (bZ.out.under hb)
    have bO:=lH (bD.out.under hb)
    have bz:=lH (bW.out.under hb)
    have bV:=lH (bP.out.under hb)
    have cK:=lH (cJ.out.under hb)
    have ac:=lH (a_.out.under hb)
    have ba:=lH (ae.out.under hb)
    clear hb aH aA aM dH cM cD du bZ bD bW bP cJ a_ ae
    have aW:=lH hn
    clear hn dl
    go_wp2_with fail
    refine (mulRF gI ac aW).mono ?_
    rintro e W5efghmR ⟨Ar,cr,lr,rfl,hn,hb⟩
    have fR:=lH (aO.out.trans (hb.mono aO.out.size))
    have PB5efghmR:=lH (aL.out.under hb (Holds.lt aL))
    have QB5efghmR:=lH (aU.out.under hb (Holds.lt aU))
    have Nx5efghmR:=lH (cW.out.under hb)
    have Ny5efghmR:=lH (dr.out.under hb)
    have Nu5efghmR:=lH (dK.out.under hb)
    have Nv5efghmR:=lH (ds.out.under hb)
    have Nup5efghmR:=lH (bJ.out.under hb)
    have Ndn5efghmR:=lH (bO.out.under hb)
    have Nxx5efghmR:=lH (bz.out.under hb)
    have Nt35efghmR:=lH (bV.out.under hb)
    have Ns5efghmR:=lH (cK.out.under hb)
    have Nup25efghmR:=lH (ac.out.under hb)
    have Ndn25efghmR:=lH (ba.out.under hb)
    have Ni5efghmR:=lH (aW.out.under hb)
    clear hb aO aL aU cW dr dK ds bJ bO bz bV cK ac ba aW
    have fP:=lH hn
    clear hn
    go_wp2_with fail
    go_ret
    exact ⟨Ar,cr,lr,rfl,j5 ▸ fP,fR⟩
   refine AllReadyH.cons (o:=⟨some 28,.buildSlice 24 1 #[(0,.const (.int .u32 3))],24,_,_,none⟩) rfl (fun K hK=>?_) AllReadyH.nil
   obtain ⟨gm,hN⟩:∃ W,W=jm.alloc (.cells #[.int .u32 3] 22):=⟨_,rfl⟩
   go_simp
   rw [←hN]
   have hb:Below jm.heap.size jm gm:=by rw [hN];exact (Below.refl _ _).alloc (Nat.le_refl _) _
   obtain ⟨s3,gV⟩:∃ s,s=jm.heap.size:=⟨_,rfl⟩
   rw [←gV]
   have h3:NR gm (some ⟨s3,0,none⟩) 1 [3] 3:=⟨by
    have hr:Row .u32 22 gm s3 [3]:=by rw [hN,gV];exact Holds.fresh _ _ _
    exact (rd_whole (c:=1) hr (by simp) (by omega)).more (Holds.lt hr),⟨fun x hx=>by rw [List.mem_singleton.1 hx];decide,.inr (by decide),by decide⟩⟩
   have iQ:=lH h3
   clear hN gV h3
   have fS:=lH (fO.out.trans (hb.mono fO.out.size))
   have fH:=lH (eO.out.under hb (Holds.lt eO))
   have fk:=lH (eU.out.under hb (Holds.lt eU))
   have iM:=lH (im.out.under hb)
   have ix:=lH (id.out.under hb)
   have iy:=lH (ik.out.under hb)
   have iA:=lH (hM.out.under hb)
   have gl:=lH (fw.out.under hb)
   have fT:=lH (fb.out.under hb)
   have eV:=lH (eB.out.under hb)
   clear hb fO eO eU im id ik hM fw fb eB
   have jV:Hid ((fun W=>Holds W w.heap.size 26 #[.slice A1 l1.length c1,.slice A2 l2.length c2,.bool false]∧Holds W (w.heap.size+1) 26 #[.slice B1 m1.length d1,.slice B2 m2.length d2,.bool false]∧True) gm):=lH ⟨fH,fk,trivial⟩
   refine hK.out _ _ (jV.out) (fun ab=>?_)
   clear hK K
   try simp only [aP]
   refine rdy 5 ⟨some 27,.call ⟨ .value (.func 49),#[.tmp 26],#[24]⟩,24,_,_,none⟩ rfl (fun K hK=>?_)
   go_simp
   refine (threeRF gm eV).mono ?_
   rintro e iR ⟨kk,ki,kj,rfl,hn,hb⟩
   have dY:=lH hn
   clear hn
   have eX:=lH (fS.out.trans (hb.mono fS.out.size))
   have dS:=lH (fH.out.under hb (Holds.lt fH))
   have dT:=lH (fk.out.under hb (Holds.lt fk))
   have f8:=lH (iM.out.under hb)
   have f6:=lH (ix.out.under hb)
   have gu:=lH (iy.out.under hb)
   have gL:=lH (iA.out.under hb)
   have fa:=lH (gl.out.under hb)
   have fg:=lH (fT.out.under hb)
   have e8:=lH (eV.out.under hb)
   have eP:=lH (iQ.out.under hb)
   clear hb fS fH fk iM ix iy iA gl fT eV iQ
   have jd:Hid ((fun W=>Holds W w.heap.size 26 #[.slice A1 l1.length c1,.slice A2 l2.length c2,.bool false]∧Holds W (w.heap.size+1) 26 #[.slice B1 m1.length d1,.slice B2 m2.length d2,.bool false]∧True) iR):=lH ⟨dS,dT,trivial⟩
   go_simp
   refine hK.out _ _ (jd.out) (fun ab=>?_)
   clear hK K
   try simp only [aP]
   refine rdy 7 ⟨some 29,.call ⟨ .value (.func 48),#[.tmp 27,.tmp 28],#[24,24]⟩,24,_,_,none⟩ rfl (fun K hK=>?_)
   go_simp
   refine (subRF iR dY eP).mono ?_
   rintro e gQ ⟨jJ,jW,jG,rfl,hn,hb⟩
   have cA:=lH hn
   clear hn
   have dZ:=lH (eX.out.trans (hb.mono eX.out.size))
   have bm:=lH (dS.out.under hb (Holds.lt dS))
   have br:=lH (dT.out.under hb (Holds.lt dT))
   have fv:=lH (f8.out.under hb)
   have bs:=lH (f6.out.under hb)
   have fG:=lH (gu.out.under hb)
   have fs:=lH (gL.out.under hb)
   have eI:=lH (fa.out.under hb)
   have eA:=lH (fg.out.under hb)
   have eF:=lH (e8.out.under hb)
   have fp:=lH (eP.out.under hb)
   have em:=lH (dY.out.under hb)
   clear hb eX dS dT f8 f6 gu gL fa fg e8 eP dY
   have g_:Hid ((fun W=>Holds W w.heap.size 26 #[.slice A1 l1.length c1,.slice A2 l2.length c2,.bool false]∧Holds W (w.heap.size+1) 26 #[.slice B1 m1.length d1,.slice B2 m2.length d2,.bool false]∧True) gQ):=lH ⟨bm,br,trivial⟩
   go_simp
   refine hK.out _ _ (g_.out) (fun ab=>?_)
   clear hK K
   try simp only [aP]
   refine rdy 12 ⟨some 34,.call ⟨ .value (.func 47),#[.tmp 31,.tmp 33],#[24,24]⟩,24,_,_,none⟩ rfl (fun K hK=>?_)
   go_simp
   refine (addRF gQ bs bs).mono ?_
   rintro e fI ⟨jN,jB,jX,rfl,hn,hb⟩
   have bB:=lH hn
   clear hn
   have bw:=lH (dZ.out.trans (hb.mono dZ.out.size))
   have aw:=lH (bm.out.under hb (Holds.lt bm))
   have av:=lH (br.out.under hb (Holds.lt br))
   have ep:=lH (fv.out.under hb)
   have eH:=lH (bs.out.under hb)
   have eg:=lH (fG.out.under hb)
   have ej:=lH (fs.out.under hb)
   have dF:=lH (eI.out.under hb)
   have cl:=lH (eA.out.under hb)
   have dO:=lH (eF.out.under hb)
   have eh:=lH (fp.out.under hb)
   have dA:=lH (em.out.under hb)
   have bQ:=lH (cA.out.under hb)
   clear hb dZ bm br fv bs fG fs eI eA eF fp em cA
   have gG:Hid ((fun W=>Holds W w.heap.size 26 #[.slice A1 l1.length c1,.slice A2 l2.length c2,.bool false]∧Holds W (w.heap.size+1) 26 #[.slice B1 m1.length d1,.slice B2 m2.length d2,.bool false]∧True) fI):=lH ⟨aw,av,trivial⟩
   go_simp
   refine hK.out _ _ (gG.out) (fun ab=>?_)
   clear hK K
   try simp only [aP]
   refine tz 13 ⟨some 5,.assign (.tmp 29),24,_,_,none⟩ rfl ab ?_
   try simp only [aP]
   refine tz 14 ⟨some 6,.assign (.tmp 34),24,_,_,none⟩ rfl ab ?_
   try simp only [aP]
   refine dn ?_
   go_wp2_with fail
   refine (refP_any fI).mono ?_
   rintro e gT ⟨gn,jf,rfl,hN,hb⟩
   have aK:=lH (bw.out.trans (hb.mono bw.out.size))
   have aN:=lH (aw.out.under hb (Holds.lt aw))
   have aG:=lH (av.out.under hb (Holds.lt av))
   have cG:=lH (ep.out.under hb)
   have di:=lH (eH.out.under hb)
   have cL:=lH (eg.out.under hb)
   have dJ:=lH (ej.out.under hb)
   have bA:=lH (dF.out.under hb)
   have bC:=lH (cl.out.under hb)
   have bY:=lH (dO.out.under hb)
   have c_:=lH (eh.out.under hb)
   have bI:=lH (dA.out.under hb)
   have aY:=lH (bQ.out.under hb)
   have ao:=lH (bB.out.under hb)
   clear hb bw aw av ep eH eg ej dF cl dO eh dA bQ bB
   have cE:=lH hN
   clear hN jf
   go_wp2_with fail
   refine (invRF gT ao jA cE).mono ?_
   rintro e gD ⟨Ai,ci,li,rfl,hn,hb⟩
   have aR:=lH (aK.out.trans (hb.mono aK.out.size))
   have aQ:=lH (aN.out.under hb (Holds.lt aN))
   have aT:=lH (aG.out.under hb (Holds.lt aG))
   have dC:=lH (cG.out.under hb)
   have dP:=lH (di.out.under hb)
   have cS:=lH (cL.out.under hb)
   have dR:=lH (dJ.out.under hb)
   have bN:=lH (bA.out.under hb)
   have bU:=lH (bC.out.under hb)
   have bM:=lH (bY.out.under hb)
   have cN:=lH (c_.out.under hb)
   have b_:=lH (bI.out.under hb)
   have ak:=lH (aY.out.under hb)
   have a6:=lH (ao.out.under hb)
   clear hb aK aN aG cG di cL dJ bA bC bY c_ bI aY ao
   have aB:=lH hn
   clear hn cE
   go_wp2_with fail
   refine (mulRF gD ak aB).mono ?_
   rintro e W5egfhmR ⟨Ar,cr,lr,rfl,hn,hb⟩
   have fN:=lH (aR.out.trans (hb.mono aR.out.size))
   have PB5egfhmR:=lH (aQ.out.under hb (Holds.lt aQ))
   have QB5egfhmR:=lH (aT.out.under hb (Holds.lt aT))
   have Nx5egfhmR:=lH (dC.out.under hb)
   have Ny5egfhmR:=lH (dP.out.under hb)
   have Nu5egfhmR:=lH (cS.out.under hb)
   have Nv5egfhmR:=lH (dR.out.under hb)
   have Nup5egfhmR:=lH (bN.out.under hb)
   have Ndn5egfhmR:=lH (bU.out.under hb)
   have Nxx5egfhmR:=lH (bM.out.under hb)
   have Ns5egfhmR:=lH (cN.out.under hb)
   have Nt35egfhmR:=lH (b_.out.under hb)
   have Nup25egfhmR:=lH (ak.out.under hb)
   have Ndn25egfhmR:=lH (a6.out.under hb)
   have Ni5egfhmR:=lH (aB.out.under hb)
   clear hb aR aQ aT dC dP cS dR bN bU bM cN b_ ak a6 aB
   have fL:=lH hn
   clear hn
   go_wp2_with fail
   go_ret
   exact ⟨Ar,cr,lr,rfl,j5 ▸ fL,fN⟩
  refine AllReadyH.cons (o:=⟨some 28,.buildSlice 24 1 #[(0,.const (.int .u32 3))],24,_,_,none⟩) rfl (fun K hK=>?_) AllReadyH.nil
  obtain ⟨jK,hN⟩:∃ W,W=W5.alloc (.cells #[.int .u32 3] 22):=⟨_,rfl⟩
  go_simp
  rw [←hN]
  have hb:Below W5.heap.size W5 jK:=by rw [hN];exact (Below.refl _ _).alloc (Nat.le_refl _) _
  obtain ⟨s3,gV⟩:∃ s,s=W5.heap.size:=⟨_,rfl⟩
  rw [←gV]
  have h3:NR jK (some ⟨s3,0,none⟩) 1 [3] 3:=⟨by
   have hr:Row .u32 22 jK s3 [3]:=by rw [hN,gV];exact Holds.fresh _ _ _
   exact (rd_whole (c:=1) hr (by simp) (by omega)).more (Holds.lt hr),⟨fun x hx=>by rw [List.mem_singleton.1 hx];decide,.inr (by decide),by decide⟩⟩
  have jP:=lH h3
  clear hN gV h3
  have iS:=lH (jl.out.trans (hb.mono jl.out.size))
  have ib:=lH (iV.out.under hb (Holds.lt iV))
  have hC:=lH (jj.out.under hb (Holds.lt jj))
  have ie:=lH (jn.out.under hb)
  have jq:=lH (j7.out.under hb)
  have jU:=lH (j6.out.under hb)
  have jR:=lH (j8.out.under hb)
  have iP:=lH (ir.out.under hb)
  have iw:=lH (gZ.out.under hb)
  clear hb jl iV jj jn j7 j6 j8 ir gZ
  have kg:Hid ((fun W=>Holds W w.heap.size 26 #[.slice A1 l1.length c1,.slice A2 l2.length c2,.bool false]∧Holds W (w.heap.size+1) 26 #[.slice B1 m1.length d1,.slice B2 m2.length d2,.bool false]∧True) jK):=lH ⟨ib,hC,trivial⟩
  refine hK.out _ _ (kg.out) (fun ab=>?_)
  clear hK K
  try simp only [aP]
  refine rdy 4 ⟨some 26,.call ⟨ .value (.func 46),#[.tmp 23,.tmp 25],#[24,24]⟩,24,_,_,none⟩ rfl (fun K hK=>?_)
  go_simp
  refine (mulRF jK ie ie).mono ?_
  rintro e jT ⟨ky,kq,kB,rfl,hn,hb⟩
  have eW:=lH hn
  clear hn
  have fV:=lH (iS.out.trans (hb.mono iS.out.size))
  have fc:=lH (ib.out.under hb (Holds.lt ib))
  have fm:=lH (hC.out.under hb (Holds.lt hC))
  have iO:=lH (ie.out.under hb)
  have iB:=lH (jq.out.under hb)
  have iI:=lH (jU.out.under hb)
  have iF:=lH (jR.out.under hb)
  have fU:=lH (iP.out.under hb)
  have gz:=lH (iw.out.under hb)
  have iu:=lH (jP.out.under hb)
  clear hb iS ib hC ie jq jU jR iP iw jP
  have jS:Hid ((fun W=>Holds W w.heap.size 26 #[.slice A1 l1.length c1,.slice A2 l2.length c2,.bool false]∧Holds W (w.heap.size+1) 26 #[.slice B1 m1.length d1,.slice B2 m2.length d2,.bool false]∧True) jT):=lH ⟨fc,fm,trivial⟩
  go_simp
  refine hK.out _ _ (jS.out) (fun ab=>?_)
  clear hK K
  try simp only [aP]
  refine rdy 5 ⟨some 27,.call ⟨ .value (.func 49),#[.tmp 26],#[24]⟩,24,_,_,none⟩ rfl (fun K hK=>?_)
  go_simp
  refine (threeRF jT eW).mono ?_
  rintro e iH ⟨kk,ki,kj,rfl,hn,hb⟩
  have d6:=lH hn
  clear hn
  have eQ:=lH (fV.out.trans (hb.mono fV.out.size))
  have d9:=lH (fc.out.under hb (Holds.lt fc))
  have dU:=lH (fm.out.under hb (Holds.lt fm))
  have gC:=lH (iO.out.under hb)
  have gc:=lH (iB.out.under hb)
  have gW:=lH (iI.out.under hb)
  have gO:=lH (iF.out.under hb)
  have fq:=lH (fU.out.under hb)
  have fE:=lH (gz.out.under hb)
  have eT:=lH (iu.out.under hb)
  have fJ:=lH (eW.out.under hb)
  clear hb fV fc fm iO iB iI iF fU gz iu eW
  have i_:Hid ((fun W=>Holds W w.heap.size 26 #[.slice A1 l1.length c1,.slice A2 l2.length c2,.bool false]∧Holds W (w.heap.size+1) 26 #[.slice B1 m1.length d1,.slice B2 m2.length d2,.bool false]∧True) iH):=lH ⟨d9,dU,trivial⟩
  go_simp
  refine hK.out _ _ (i_.out) (fun ab=>?_)
  clear hK K
  try simp only [aP]
  refine rdy 7 ⟨some 29,.call ⟨ .value (.func 48),#[.tmp 27,.tmp 28],#[24,24]⟩,24,_,_,none⟩ rfl (fun K hK=>?_)
  go_simp
  refine (subRF iH d6 eT).mono ?_
  rintro e gr ⟨jJ,jW,jG,rfl,hn,hb⟩
  have dc:=lH hn
  clear hn
  have dV:=lH (eQ.out.trans (hb.mono eQ.out.size))
  have bn:=lH (d9.out.under hb (Holds.lt d9))
  have bc:=lH (dU.out.under hb (Holds.lt dU))
  have fu:=lH (gC.out.under hb)
  have bd:=lH (gc.out.under hb)
  have eZ:=lH (gW.out.under hb)
  have fB:=lH (gO.out.under hb)
  have er:=lH (fq.out.under hb)
  have eK:=lH (fE.out.under hb)
  have fl:=lH (eT.out.under hb)
  have ed:=lH (fJ.out.under hb)
  have ew:=lH (d6.out.under hb)
  clear hb eQ d9 dU gC gc gW gO fq fE eT fJ d6
  have ia:Hid ((fun W=>Holds W w.heap.size 26 #[.slice A1 l1.length c1,.slice A2 l2.length c2,.bool false]∧Holds W (w.heap.size+1) 26 #[.slice B1 m1.length d1,.slice B2 m2.length d2,.bool false]∧True) gr):=lH ⟨bn,bc,trivial⟩
  go_simp
  refine hK.out _ _ (ia.out) (fun ab=>?_)
  clear hK K
  try simp only [aP]
  refine rdy 12 ⟨some 34,.call ⟨ .value (.func 47),#[.tmp 31,.tmp 33],#[24,24]⟩,24,_,_,none⟩ rfl (fun K hK=>?_)
  go_simp
  refine (addRF gr bd bd).mono ?_
  rintro e fC ⟨jN,jB,jX,rfl,hn,hb⟩
  have bT:=lH hn
  clear hn
  have bF:=lH (dV.out.trans (hb.mono dV.out.size))
  have au:=lH (bn.out.under hb (Holds.lt bn))
  have az:=lH (bc.out.under hb (Holds.lt bc))
  have eL:=lH (fu.out.under hb)
  have eo:=lH (bd.out.under hb)
  have eE:=lH (eZ.out.under hb)
  have ev:=lH (fB.out.under hb)
  have cO:=lH (er.out.under hb)
  have dL:=lH (eK.out.under hb)
  have ec:=lH (fl.out.under hb)
  have dw:=lH (ed.out.under hb)
  have dt:=lH (ew.out.under hb)
  have bu:=lH (dc.out.under hb)
  clear hb dV bn bc fu bd eZ fB er eK fl ed ew dc
  have f_:Hid ((fun W=>Holds W w.heap.size 26 #[.slice A1 l1.length c1,.slice A2 l2.length c2,.bool false]∧Holds W (w.heap.size+1) 26 #[.slice B1 m1.length d1,.slice B2 m2.length d2,.bool false]∧True) fC):=lH ⟨au,az,trivial⟩
  go_simp
  refine hK.out _ _ (f_.out) (fun ab=>?_)
  clear hK K
  try simp only [aP]
  refine tz 13 ⟨some 5,.assign (.tmp 29),24,_,_,none⟩ rfl ab ?_
  try simp only [aP]
  refine tz 14 ⟨some 6,.assign (.tmp 34),24,_,_,none⟩ rfl ab ?_
  try simp only [aP]
  refine dn ?_
  go_wp2_with fail
  refine (refP_any fC).mono ?_
  rintro e gA ⟨gn,jf,rfl,hN,hb⟩
  have aX:=lH (bF.out.trans (hb.mono bF.out.size))
  have aC:=lH (au.out.under hb (Holds.lt au))
  have aF:=lH (az.out.under hb (Holds.lt az))
  have dQ:=lH (eL.out.under hb)
  have cV:=lH (eo.out.under hb)
  have dG:=lH (eE.out.under hb)
  have dI:=lH (ev.out.under hb)
  have bt:=lH (cO.out.under hb)
  have bH:=lH (dL.out.under hb)
  have cU:=lH (ec.out.under hb)
  have bS:=lH (dw.out.under hb)
  have bx:=lH (dt.out.under hb)
  have a8:=lH (bu.out.under hb)
  have am:=lH (bT.out.under hb)
  clear hb bF au az eL eo eE ev cO dL ec dw dt bu bT
  have dM:=lH hN
  clear hN jf
  go_wp2_with fail
  refine (invRF gA am jA dM).mono ?_
  rintro e gi ⟨Ai,ci,li,rfl,hn,hb⟩
  have aD:=lH (aX.out.trans (hb.mono aX.out.size))
  have aE:=lH (aC.out.under hb (Holds.lt aC))
  have aJ:=lH (aF.out.under hb (Holds.lt aF))
  have dB:=lH (dQ.out.under hb)
  have dN:=lH (cV.out.under hb)
  have dv:=lH (dG.out.under hb)
  have dE:=lH (dI.out.under hb)
  have bG:=lH (bt.out.under hb)
  have bE:=lH (bH.out.under hb)
  have cC:=lH (cU.out.under hb)
  have bv:=lH (bS.out.under hb)
  have bK:=lH (bx.out.under hb)
  have ai:=lH (a8.out.under hb)
  have a9:=lH (am.out.under hb)
  clear hb aX aC aF dQ cV dG dI bt bH cU bS bx a8 am
  have aV:=lH hn
  clear hn dM
  go_wp2_with fail
  refine (mulRF gi ai aV).mono ?_
  rintro e W5gefhmR ⟨Ar,cr,lr,rfl,hn,hb⟩
  have fM:=lH (aD.out.trans (hb.mono aD.out.size))
  have PB5gefhmR:=lH (aE.out.under hb (Holds.lt aE))
  have QB5gefhmR:=lH (aJ.out.under hb (Holds.lt aJ))
  have Nx5gefhmR:=lH (dB.out.under hb)
  have Ny5gefhmR:=lH (dN.out.under hb)
  have Nu5gefhmR:=lH (dv.out.under hb)
  have Nv5gefhmR:=lH (dE.out.under hb)
  have Nup5gefhmR:=lH (bG.out.under hb)
  have Ndn5gefhmR:=lH (bE.out.under hb)
  have Ns5gefhmR:=lH (cC.out.under hb)
  have Nxx5gefhmR:=lH (bv.out.under hb)
  have Nt35gefhmR:=lH (bK.out.under hb)
  have Nup25gefhmR:=lH (ai.out.under hb)
  have Ndn25gefhmR:=lH (a9.out.under hb)
  have Ni5gefhmR:=lH (aV.out.under hb)
  clear hb aD aE aJ dB dN dv dE bG bE cC bv bK ai a9 aV
  have fQ:=lH hn
  clear hn
  go_wp2_with fail
  go_ret
  exact ⟨Ar,cr,lr,rfl,j5 ▸ fQ,fM⟩
 ·have kx:Hid (¬ (x1=x2∧y1=y2)):=lH fun e=>hx e.1
  have jA:Hid (x1 - x2≠0):=lH fun e=>hx (by grind)
  have j5:Hid ((y1 - y2)*Luc.finv (x1 - x2)=Luc.sl x1 y1 x2 y2):=lH (sl_far hx)
  clear hn h12 hx
  go_enter Tryd.func51,Tryd.ntmps51
  go_wp2_with fail
  rw [←HW.out]
  clear HW
  go_wp2_with fail
  refine wp_region_noPanic ?_
  refine wp_region_held_drew (S:=fun W=>Holds W w.heap.size 26 #[.slice A1 l1.length c1,.slice A2 l2.length c2,.bool false]∧Holds W (w.heap.size+1) 26 #[.slice B1 m1.length d1,.slice B2 m2.length d2,.bool false]∧True) (by kernel_rfl) (⟨iN.out,iG.out,trivial⟩) (fun ab=>?_)
  obtain ⟨W1,hV⟩:∃ W,W=W0.drew:=⟨_,rfl⟩
  rw [←hV]
  have hb:Below W0.heap.size W0 W1:=by rw [hV];exact (Below.refl _ W0).drew
  have i7:=lH (jo.out.trans (hb.mono jo.out.size))
  have hI:=lH (iN.out.under hb (Holds.lt iN))
  have io:=lH (iG.out.under hb (Holds.lt iG))
  have jQ:=lH (j9.out.under hb)
  have jh:=lH (kb.out.under hb)
  have jr:=lH (j_.out.under hb)
  have i4:=lH (ka.out.under hb)
  clear hb jo iN iG j9 kb j_ ka
  have kf:Hid ((fun W=>Holds W w.heap.size 26 #[.slice A1 l1.length c1,.slice A2 l2.length c2,.bool false]∧Holds W (w.heap.size+1) 26 #[.slice B1 m1.length d1,.slice B2 m2.length d2,.bool false]∧True) W1):=lH ⟨hI,io,trivial⟩
  replace ab:(fun W=>Holds W w.heap.size 26 #[.slice A1 l1.length c1,.slice A2 l2.length c2,.bool false]∧Holds W (w.heap.size+1) 26 #[.slice B1 m1.length d1,.slice B2 m2.length d2,.bool false]∧True) W1:=kf.out
  clear hV
  refine tz 0 ⟨some 9,.fieldAddr 26 (.tmp 2) 1,0,_,_,none⟩ rfl ab ?_
  try simp only [aP]
  refine tk 1 ⟨some 10,.load 24 (.tmp 9),24,_,_,none⟩ ?_ rfl ?_ ab ?_
  rotate_left 1
  ·(intro W hW;have gS:=hW.1.cell 1;(try dsimp only at hW);go_simp;try with_reducible rfl)
  try simp only [aP]
  refine tz 2 ⟨some 11,.fieldAddr 26 (.tmp 3) 1,0,_,_,none⟩ rfl ab ?_
  try simp only [aP]
  refine tk 3 ⟨some 12,.load 24 (.tmp 11),24,_,_,none⟩ ?_ rfl ?_ ab ?_
  rotate_left 1
  ·(intro W hW;have gS:=hW.2.1.cell 1;(try dsimp only at hW);go_simp;try with_reducible rfl)
  try simp only [aP]
  refine tz 5 ⟨some 14,.fieldAddr 26 (.tmp 2) 0,0,_,_,none⟩ rfl ab ?_
  try simp only [aP]
  refine tk 6 ⟨some 15,.load 24 (.tmp 14),24,_,_,none⟩ ?_ rfl ?_ ab ?_
  rotate_left 1
  ·(intro W hW;have gS:=hW.1.cell 0;(try dsimp only at hW);go_simp;try with_reducible rfl)
  try simp only [aP]
  refine tz 7 ⟨some 16,.fieldAddr 26 (.tmp 3) 0,0,_,_,none⟩ rfl ab ?_
  try simp only [aP]
  refine tk 8 ⟨some 17,.load 24 (.tmp 16),24,_,_,none⟩ ?_ rfl ?_ ab ?_
  rotate_left 1
  ·(intro W hW;have gS:=hW.2.1.cell 0;(try dsimp only at hW);go_simp;try with_reducible rfl)
  try simp only [aP]
  refine rdy 4 ⟨some 13,.call ⟨ .value (.func 48),#[.tmp 10,.tmp 12],#[24,24]⟩,24,_,_,none⟩ rfl (fun K hK=>?_)
  go_simp
  refine (subRF W1 jh i4).mono ?_
  rintro e W2 ⟨kn,kt,kA,rfl,hn,hb⟩
  have i8:=lH (i7.out.trans (hb.mono i7.out.size))
  have il:=lH (hI.out.under hb (Holds.lt hI))
  have h_:=lH (io.out.under hb (Holds.lt io))
  have i6:=lH (jQ.out.under hb)
  have jF:=lH (jh.out.under hb)
  have jc:=lH (jr.out.under hb)
  have jH:=lH (i4.out.under hb)
  clear hb i7 hI io jQ jh jr i4
  have gJ:=lH hn
  clear hn
  have jD:Hid ((fun W=>Holds W w.heap.size 26 #[.slice A1 l1.length c1,.slice A2 l2.length c2,.bool false]∧Holds W (w.heap.size+1) 26 #[.slice B1 m1.length d1,.slice B2 m2.length d2,.bool false]∧True) W2):=lH ⟨il,h_,trivial⟩
  go_simp
  refine hK.out _ _ (jD.out) (fun _=>?_)
  clear hK K ab
  try simp only [aP]
  have ab:(fun W=>Holds W w.heap.size 26 #[.slice A1 l1.length c1,.slice A2 l2.length c2,.bool false]∧Holds W (w.heap.size+1) 26 #[.slice B1 m1.length d1,.slice B2 m2.length d2,.bool false]∧True) W2:=jD.out
  refine rdy 9 ⟨some 18,.call ⟨ .value (.func 48),#[.tmp 15,.tmp 17],#[24,24]⟩,24,_,_,none⟩ rfl (fun K hK=>?_)
  go_simp
  refine (subRF W2 i6 jc).mono ?_
  rintro e W3 ⟨ks,ku,kz,rfl,hn,hb⟩
  have iX:=lH (i8.out.trans (hb.mono i8.out.size))
  have eY:=lH (il.out.under hb (Holds.lt il))
  have eR:=lH (h_.out.under hb (Holds.lt h_))
  have jb:=lH (i6.out.under hb)
  have iT:=lH (jF.out.under hb)
  have iZ:=lH (jc.out.under hb)
  have i9:=lH (jH.out.under hb)
  have gR:=lH (gJ.out.under hb)
  clear hb i8 il h_ i6 jF jc jH gJ
  have fW:=lH hn
  clear hn
  have jx:Hid ((fun W=>Holds W w.heap.size 26 #[.slice A1 l1.length c1,.slice A2 l2.length c2,.bool false]∧Holds W (w.heap.size+1) 26 #[.slice B1 m1.length d1,.slice B2 m2.length d2,.bool false]∧True) W3):=lH ⟨eY,eR,trivial⟩
  go_simp
  refine hK.out _ _ (jx.out) (fun _=>?_)
  clear hK K ab
  try simp only [aP]
  have ab:(fun W=>Holds W w.heap.size 26 #[.slice A1 l1.length c1,.slice A2 l2.length c2,.bool false]∧Holds W (w.heap.size+1) 26 #[.slice B1 m1.length d1,.slice B2 m2.length d2,.bool false]∧True) W3:=jx.out
  refine tz 10 ⟨some 5,.assign (.tmp 13),24,_,_,none⟩ rfl ab ?_
  try simp only [aP]
  refine tz 11 ⟨some 6,.assign (.tmp 18),24,_,_,none⟩ rfl ab ?_
  try simp only [aP]
  refine dn ?_
  have p0:=eY.out.cell 0
  have p1:=eY.out.cell 1
  have p2:=eY.out.cell 2
  have q0:=eR.out.cell 0
  have q1:=eR.out.cell 1
  have q2:=eR.out.cell 2
  go_wp2_with fail
  refine (sameR_no W3 jb iT iZ i9 kx).mono ?_
  rintro e W4 ⟨rfl,hb⟩
  have ja:=lH (iX.out.trans (hb.mono iX.out.size))
  have iD:=lH (eY.out.under hb (Holds.lt eY))
  have iJ:=lH (eR.out.under hb (Holds.lt eR))
  have jv:=lH (jb.out.under hb)
  have jL:=lH (iT.out.under hb)
  have j4:=lH (iZ.out.under hb)
  have jy:=lH (i9.out.under hb)
  have gN:=lH (gR.out.under hb)
  have fZ:=lH (fW.out.under hb)
  clear hb iX eY eR jb iT iZ i9 gR fW
  clear p0 p1 p2 q0 q1 q2
  go_wp2_with fail
  refine (refP_any W4).mono ?_
  rintro e kp ⟨gn,jf,rfl,hN,hb⟩
  have je:=lH (ja.out.trans (hb.mono ja.out.size))
  have i5:=lH (iD.out.under hb (Holds.lt iD))
  have iU:=lH (iJ.out.under hb (Holds.lt iJ))
  have js:=lH (jv.out.under hb)
  have jC:=lH (jL.out.under hb)
  have jw:=lH (j4.out.under hb)
  have jZ:=lH (jy.out.under hb)
  have iL:=lH (gN.out.under hb)
  have gv:=lH (fZ.out.under hb)
  clear hb ja iD iJ jv jL j4 jy gN fZ
  have jt:=lH hN
  clear hN jf
  go_wp2_with fail
  refine (invRF kp gv jA jt).mono ?_
  rintro e kr ⟨Ai,ci,li,rfl,hn,hb⟩
  have iY:=lH (je.out.trans (hb.mono je.out.size))
  have jk:=lH (i5.out.under hb (Holds.lt i5))
  have jg:=lH (iU.out.under hb (Holds.lt iU))
  have jO:=lH (js.out.under hb)
  have jI:=lH (jC.out.under hb)
  have jY:=lH (jw.out.under hb)
  have ju:=lH (jZ.out.under hb)
  have gE:=lH (iL.out.under hb)
  have iE:=lH (gv.out.under hb)
  clear hb je i5 iU js jC jw jZ iL gv
  have ji:=lH hn
  clear hn jt
  go_wp2_with fail
  refine (mulRF kr gE ji).mono ?_
  rintro e W4R ⟨Ar,cr,lr,rfl,hn,hb⟩
  have kc:=lH (iY.out.trans (hb.mono iY.out.size))
  have PB4R:=lH (jk.out.under hb (Holds.lt jk))
  have QB4R:=lH (jg.out.under hb (Holds.lt jg))
  have Nx4R:=lH (jO.out.under hb)
  have Ny4R:=lH (jI.out.under hb)
  have Nu4R:=lH (jY.out.under hb)
  have Nv4R:=lH (ju.out.under hb)
  have Nup4R:=lH (gE.out.under hb)
  have Ndn4R:=lH (iE.out.under hb)
  have Ni4R:=lH (ji.out.under hb)
  clear hb iY jk jg jO jI jY ju gE iE ji
  have ke:=lH hn
  clear hn
  go_wp2_with fail
  go_ret
  exact ⟨Ar,cr,lr,rfl,j5 ▸ ke,kc⟩
end Go.Proofs.YtflfdglpljodbaaDoor
