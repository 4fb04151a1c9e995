/-
  A wide point, twice.
-/
import Derived.Test.YtflfdglpljodbaaDoorGCvD
set_option maxRecDepth 100000
set_option maxHeartbeats 40000000
namespace Go.Proofs.YtflfdglpljodbaaDoor
open Go.RowKit
set_option linter.unusedVariables false
set_option linter.unusedSimpArgs false
theorem holds_aside4 {w:World} {g k:Nat} {t:TypeId} {cs:Array Value} (h:Holds w g t cs) (hne:g≠k) (p q r s:Value):Holds ((((w.setCell ⟨k,0,none⟩ p).setCell ⟨k,1,none⟩ q).setCell ⟨k,2,none⟩ r).setCell ⟨k,3,none⟩ s) g t cs :=
 Holds.aside (Holds.aside (Holds.aside (Holds.aside h (p:=⟨k,0,none⟩) hne p) (p:=⟨k,1,none⟩) hne q) (p:=⟨k,2,none⟩) hne r) (p:=⟨k,3,none⟩) hne s
theorem holds_aside12 {w:World} {g k:Nat} {t:TypeId} {cs:Array Value} (h:Holds w g t cs) (hne:g≠k) (p0 p1 p2 p3 p4 p5 p6 p7 p8 p9 p10 p11:Value):Holds ((((((((((((w.setCell ⟨k,0,none⟩ p0).setCell ⟨k,1,none⟩ p1).setCell ⟨k,2,none⟩ p2).setCell ⟨k,3,none⟩ p3).setCell ⟨k,4,none⟩ p4).setCell ⟨k,5,none⟩ p5).setCell ⟨k,6,none⟩ p6).setCell ⟨k,7,none⟩ p7).setCell ⟨k,8,none⟩ p8).setCell ⟨k,9,none⟩ p9).setCell ⟨k,10,none⟩ p10).setCell ⟨k,11,none⟩ p11) g t cs :=
 (Holds.aside (Holds.aside (Holds.aside (Holds.aside (Holds.aside (Holds.aside (Holds.aside (Holds.aside (Holds.aside (Holds.aside (Holds.aside (Holds.aside h (p:=⟨k,0,none⟩) hne p0) (p:=⟨k,1,none⟩) hne p1) (p:=⟨k,2,none⟩) hne p2) (p:=⟨k,3,none⟩) hne p3) (p:=⟨k,4,none⟩) hne p4) (p:=⟨k,5,none⟩) hne p5) (p:=⟨k,6,none⟩) hne p6) (p:=⟨k,7,none⟩) hne p7) (p:=⟨k,8,none⟩) hne p8) (p:=⟨k,9,none⟩) hne p9) (p:=⟨k,10,none⟩) hne p10) (p:=⟨k,11,none⟩) hne p11)
theorem doubleE (w:World) (hm:CMet w) (j:Luc.Jc) {x0 x1 x2 x3 y0 y1 y2 y3 z0 z1 z2 z3 X0 X1 X2 X3 Y0 Y1 Y2 Y3 Z0 Z1 Z2 Z3:Nat} (hx:nm (en j.x)=[x0,x1,x2,x3]) (hy:nm (en j.y)=[y0,y1,y2,y3]) (hz:nm (en j.z)=[z0,z1,z2,z3])
  (hX0:nm (en (Luc.dbl j).x)=[X0,X1,X2,X3]) (hY0:nm (en (Luc.dbl j).y)=[Y0,Y1,Y2,Y3]) (hZ0:nm (en (Luc.dbl j).z)=[Z0,Z1,Z2,Z3]) :
  Calls Tryd.prog 63 #[.agg #[.int .u64 (x0:Int),.int .u64 (x1:Int),.int .u64 (x2:Int),.int .u64 (x3:Int),.int .u64 (y0:Int),.int .u64 (y1:Int),.int .u64 (y2:Int),.int .u64 (y3:Int),.int .u64 (z0:Int),.int .u64 (z1:Int),.int .u64 (z2:Int),.int .u64 (z3:Int)]] w fun e w'=>e = .returned (.agg #[.int .u64 (X0:Int),.int .u64 (X1:Int),.int .u64 (X2:Int),.int .u64 (X3:Int),.int .u64 (Y0:Int),.int .u64 (Y1:Int),.int .u64 (Y2:Int),.int .u64 (Y3:Int),.int .u64 (Z0:Int),.int .u64 (Z1:Int),.int .u64 (Z2:Int),.int .u64 (Z3:Int)])∧Below w.heap.size w w':=by
 obtain ⟨zz,ol⟩:∃ v,v=j.z*j.z:=⟨_,rfl⟩
 obtain ⟨yy,oC⟩:∃ v,v=j.y*j.y:=⟨_,rfl⟩
 obtain ⟨fm,ml⟩:∃ v,v=j.x*yy:=⟨_,rfl⟩
 obtain ⟨da,pd⟩:∃ v,v=j.x - zz:=⟨_,rfl⟩
 obtain ⟨db,pq⟩:∃ v,v=j.x+zz:=⟨_,rfl⟩
 obtain ⟨a1,pf⟩:∃ v,v=da*db:=⟨_,rfl⟩
 obtain ⟨a2,po⟩:∃ v,v=a1+a1:=⟨_,rfl⟩
 obtain ⟨a3,pj⟩:∃ v,v=a1+a2:=⟨_,rfl⟩
 obtain ⟨t1,pc⟩:∃ v,v=fm+fm:=⟨_,rfl⟩
 obtain ⟨fo,o_⟩:∃ v,v=t1+t1:=⟨_,rfl⟩
 obtain ⟨yz,qu⟩:∃ v,v=j.y+j.z:=⟨_,rfl⟩
 obtain ⟨aa,pn⟩:∃ v,v=a3*a3:=⟨_,rfl⟩
 obtain ⟨ff,pi⟩:∃ v,v=fo+fo:=⟨_,rfl⟩
 obtain ⟨X,hX⟩:∃ v,v=aa - ff:=⟨_,rfl⟩
 obtain ⟨fx,qd⟩:∃ v,v=fo - X:=⟨_,rfl⟩
 obtain ⟨af,pW⟩:∃ v,v=a3*fx:=⟨_,rfl⟩
 obtain ⟨ga,pP⟩:∃ v,v=yy*yy:=⟨_,rfl⟩
 obtain ⟨gb,pz⟩:∃ v,v=ga+ga:=⟨_,rfl⟩
 obtain ⟨gd,qx⟩:∃ v,v=gb+gb:=⟨_,rfl⟩
 obtain ⟨ge,pV⟩:∃ v,v=gd+gd:=⟨_,rfl⟩
 obtain ⟨Y,hY⟩:∃ v,v=af - ge:=⟨_,rfl⟩
 obtain ⟨za,pZ⟩:∃ v,v=yz*yz:=⟨_,rfl⟩
 obtain ⟨zb,pA⟩:∃ v,v=za - yy:=⟨_,rfl⟩
 obtain ⟨Z,hZ⟩:∃ v,v=zb - zz:=⟨_,rfl⟩
 obtain ⟨kk,kc,jV,j4,mM⟩:=four (nm_len (en zz))
 obtain ⟨jX,jY,jW,ke,mJ⟩:=four (nm_len (en yy))
 obtain ⟨nN,nM,nW,nV,lC⟩:=four (nm_len (en fm))
 obtain ⟨r9,s_,te,sE,mK⟩:=four (nm_len (en da))
 obtain ⟨tn,sd,sq,rH,nj⟩:=four (nm_len (en db))
 obtain ⟨oE,oP,oD,oY,mE⟩:=four (nm_len (en a1))
 obtain ⟨sA,s8,tu,tB,mF⟩:=four (nm_len (en a2))
 obtain ⟨ms,mp,my,mj,nh⟩:=four (nm_len (en a3))
 obtain ⟨rA,sF,rB,rW,mB⟩:=four (nm_len (en t1))
 obtain ⟨p_,qk,qh,pX,mU⟩:=four (nm_len (en fo))
 obtain ⟨pI,qE,qe,pQ,m_⟩:=four (nm_len (en yz))
 obtain ⟨tA,rx,tw,sk,m8⟩:=four (nm_len (en aa))
 obtain ⟨s9,sG,sR,rL,mV⟩:=four (nm_len (en ff))
 obtain ⟨sJ,se,sV,sN,nl⟩:=four (nm_len (en fx))
 obtain ⟨sB,sD,rQ,rP,m9⟩:=four (nm_len (en af))
 obtain ⟨sP,sX,rV,rO,m7⟩:=four (nm_len (en ga))
 obtain ⟨ry,tC,s4,s6,mQ⟩:=four (nm_len (en gb))
 obtain ⟨tp,th,sT,sa,mZ⟩:=four (nm_len (en gd))
 obtain ⟨ti,sS,rD,tv,mL⟩:=four (nm_len (en ge))
 obtain ⟨rU,sK,rI,tD,mT⟩:=four (nm_len (en za))
 obtain ⟨s7,tg,tH,ts,nk⟩:=four (nm_len (en zb))
 have oU:nm (en X)=[X0,X1,X2,X3]:=by rw [←hX0];congr 2;rw [hX,pn,pi,o_,pc,pj,po,pf,pd,pq,ml,oC,ol];rfl
 have oI:nm (en Y)=[Y0,Y1,Y2,Y3]:=by rw [←hY0];congr 2;rw [hY,pW,qd,hX,pn,pi,o_,pc,pj,po,pf,pd,pq,ml,pV,qx,pz,pP,oC,ol];rfl
 have oF:nm (en Z)=[Z0,Z1,Z2,Z3]:=by rw [←hZ0];congr 2;rw [hZ,pA,pZ,qu,oC,ol];rfl
 have FV:Hid ((CMet w)∧(nm (en j.x)=[x0,x1,x2,x3])∧(nm (en j.y)=[y0,y1,y2,y3])∧(nm (en j.z)=[z0,z1,z2,z3])∧(zz=j.z*j.z)∧(yy=j.y*j.y)∧(fm=j.x*yy)∧(da=j.x - zz)∧(db=j.x+zz)∧(a1=da*db)∧(a2=a1+a1)∧(a3=a1+a2)∧(t1=fm+fm)∧(fo=t1+t1)∧(yz=j.y+j.z)∧(aa=a3*a3)∧(ff=fo+fo)∧(X=aa - ff)∧(fx=fo - X)∧(af=a3*fx)∧(ga=yy*yy)∧(gb=ga+ga)∧(gd=gb+gb)∧(ge=gd+gd)∧(Y=af - ge)∧(za=yz*yz)∧(zb=za - yy)∧(Z=zb - zz)∧(nm (en zz)=[kk,kc,jV,j4])∧(nm (en yy)=[jX,jY,jW,ke])∧(nm (en fm)=[nN,nM,nW,nV])∧(nm (en da)=[r9,s_,te,sE])∧(nm (en db)=[tn,sd,sq,rH])∧(nm (en a1)=[oE,oP,oD,oY])∧(nm (en a2)=[sA,s8,tu,tB])∧(nm (en a3)=[ms,mp,my,mj])∧(nm (en t1)=[rA,sF,rB,rW])∧(nm (en fo)=[p_,qk,qh,pX])∧(nm (en yz)=[pI,qE,qe,pQ])∧(nm (en aa)=[tA,rx,tw,sk])∧(nm (en ff)=[s9,sG,sR,rL])∧(nm (en X)=[X0,X1,X2,X3])∧(nm (en fx)=[sJ,se,sV,sN])∧(nm (en af)=[sB,sD,rQ,rP])∧(nm (en ga)=[sP,sX,rV,rO])∧(nm (en gb)=[ry,tC,s4,s6])∧(nm (en gd)=[tp,th,sT,sa])∧(nm (en ge)=[ti,sS,rD,tv])∧(nm (en Y)=[Y0,Y1,Y2,Y3])∧(nm (en za)=[rU,sK,rI,tD])∧(nm (en zb)=[s7,tg,tH,ts])∧(nm (en Z)=[Z0,Z1,Z2,Z3])):=lH ⟨hm,hx,hy,hz,ol,oC,ml,pd,pq,pf,po,pj,pc,o_,qu,pn,pi,hX,qd,pW,pP,pz,qx,pV,hY,pZ,pA,hZ,mM,mJ,lC,mK,nj,mE,mF,nh,mB,mU,m_,m8,mV,oU,nl,m9,m7,mQ,mZ,mL,oI,mT,nk,oF⟩
 clear hX0 hY0 hZ0 hx hy hz ol oC ml pd pq pf po pj pc o_ qu pn pi hX qd pW pP pz qx pV hY pZ pA hZ mM mJ lC mK nj mE mF nh mB mU m_ m8 mV oU nl m9 m7 mQ mZ mL oI mT nk oF
 obtain ⟨w1,oN⟩:∃ W,W=w.alloc (.cells #[.int .u64 (x0:Int),.int .u64 (x1:Int),.int .u64 (x2:Int),.int .u64 (x3:Int),.int .u64 (y0:Int),.int .u64 (y1:Int),.int .u64 (y2:Int),.int .u64 (y3:Int),.int .u64 (z0:Int),.int .u64 (z1:Int),.int .u64 (z2:Int),.int .u64 (z3:Int)] 69):=⟨_,rfl⟩
 have rn:w1.heap.size=w.heap.size+1:=by rw [oN];simp
 have pD:Below w.heap.size w w1:=by rw [oN];exact (Below.refl _ _).alloc (Nat.le_refl _) _
 obtain ⟨u0,oB⟩:∃ W,W=w1.alloc (.cells #[.int .u64 0,.int .u64 0,.int .u64 0,.int .u64 0,.int .u64 0,.int .u64 0,.int .u64 0,.int .u64 0,.int .u64 0,.int .u64 0,.int .u64 0,.int .u64 0] 69):=⟨_,rfl⟩
 have qC:Below w.heap.size w u0:=by rw [oB];exact pD.alloc pD.size _
 have oc:Hid ((Holds u0 w.heap.size 69 #[.int .u64 (x0:Int),.int .u64 (x1:Int),.int .u64 (x2:Int),.int .u64 (x3:Int),.int .u64 (y0:Int),.int .u64 (y1:Int),.int .u64 (y2:Int),.int .u64 (y3:Int),.int .u64 (z0:Int),.int .u64 (z1:Int),.int .u64 (z2:Int),.int .u64 (z3:Int)])∧(Holds u0 (w.heap.size+1) 69 #[.int .u64 0,.int .u64 0,.int .u64 0,.int .u64 0,.int .u64 0,.int .u64 0,.int .u64 0,.int .u64 0,.int .u64 0,.int .u64 0,.int .u64 0,.int .u64 0])∧(Below w.heap.size w u0)∧(CMet u0)):=lH ⟨by rw [oB,oN];exact (Holds.fresh w _ _).alloc _,by rw [oB,←rn];exact Holds.fresh w1 _ _,qC,hm.under qC⟩
 have HW:=lH (oN ▸ oB:u0=(w.alloc (.cells #[.int .u64 (x0:Int),.int .u64 (x1:Int),.int .u64 (x2:Int),.int .u64 (x3:Int),.int .u64 (y0:Int),.int .u64 (y1:Int),.int .u64 (y2:Int),.int .u64 (y3:Int),.int .u64 (z0:Int),.int .u64 (z1:Int),.int .u64 (z2:Int),.int .u64 (z3:Int)] 69)).alloc (.cells #[.int .u64 0,.int .u64 0,.int .u64 0,.int .u64 0,.int .u64 0,.int .u64 0,.int .u64 0,.int .u64 0,.int .u64 0,.int .u64 0,.int .u64 0,.int .u64 0] 69))
 clear hm oN rn pD oB qC
 go_enter Tryd.func63,Tryd.ntmps63
 go_wp2_with fail
 rw [←HW.out]
 clear HW
 obtain ⟨rR,ju⟩:∃ Q:Exit→Act→World→Prop,Hid (Q=fun e a W=>e = .normal∧∃ (g3 g4:Nat),a.tmps=#[tG a 0,.pointer (some ⟨w.heap.size,0,none⟩),.pointer (some ⟨w.heap.size+1,0,none⟩),.pointer (some ⟨g3,0,none⟩),.pointer (some ⟨g4,0,none⟩),tG a 5,tG a 6,tG a 7,tG a 8,tG a 9,tG a 10,tG a 11,tG a 12,tG a 13,tG a 14,tG a 15,tG a 16,tG a 17,tG a 18,tG a 19,tG a 20,tG a 21,tG a 22,tG a 23,tG a 24,tG a 25,tG a 26,tG a 27,tG a 28,tG a 29,tG a 30,tG a 31,tG a 32,tG a 33,tG a 34,tG a 35,tG a 36,tG a 37,tG a 38,tG a 39,tG a 40,tG a 41,tG a 42,tG a 43,tG a 44,tG a 45,tG a 46,tG a 47,tG a 48,tG a 49,tG a 50,tG a 51,tG a 52,tG a 53,tG a 54,tG a 55,tG a 56,tG a 57,tG a 58,tG a 59,tG a 60,tG a 61,tG a 62,tG a 63,tG a 64,tG a 65,tG a 66,tG a 67,tG a 68,tG a 69,tG a 70,tG a 71,tG a 72,tG a 73,tG a 74]∧a.defers=[]∧((Holds W w.heap.size 69 #[.int .u64 (x0:Int),.int .u64 (x1:Int),.int .u64 (x2:Int),.int .u64 (x3:Int),.int .u64 (y0:Int),.int .u64 (y1:Int),.int .u64 (y2:Int),.int .u64 (y3:Int),.int .u64 (z0:Int),.int .u64 (z1:Int),.int .u64 (z2:Int),.int .u64 (z3:Int)])∧(Holds W (w.heap.size+1) 69 #[.int .u64 0,.int .u64 0,.int .u64 0,.int .u64 0,.int .u64 0,.int .u64 0,.int .u64 0,.int .u64 0,.int .u64 0,.int .u64 0,.int .u64 0,.int .u64 0])∧(Below w.heap.size w W)∧(CMet W))∧(NumOr W g3 (some (en zz)))∧(NumOr W g4 (some (en yy)))∧(w.heap.size+1<g3)∧(w.heap.size+1<g4)):=⟨_,lH rfl⟩
 refine Code.wp_mono (Q:=rR) ?_ ?_
 rotate_left 1
 ·have ma:=lH (oc.out.1)
  have c_:=lH (oc.out.2.1)
  have q9:=lH (oc.out.2.2.1)
  have ja:=lH (oc.out.2.2.2)
  have Hy:=lH (FV.out.2.2.1)
  have Hz:=lH (FV.out.2.2.2.1)
  have og:=lH (FV.out.2.2.2.2.1)
  have kB:=lH (FV.out.2.2.2.2.2.1)
  have cL:=lH (FV.out.2.2.2.2.2.2.2.2.2.2.2.2.2.2.2.2.2.2.2.2.2.2.2.2.2.2.2.2.1)
  have bc:=lH (FV.out.2.2.2.2.2.2.2.2.2.2.2.2.2.2.2.2.2.2.2.2.2.2.2.2.2.2.2.2.2.1)
  clear oc FV
  have HF:Hid (∀ W,Below u0.heap.size u0 W→(Holds W w.heap.size 69 #[.int .u64 (x0:Int),.int .u64 (x1:Int),.int .u64 (x2:Int),.int .u64 (x3:Int),.int .u64 (y0:Int),.int .u64 (y1:Int),.int .u64 (y2:Int),.int .u64 (y3:Int),.int .u64 (z0:Int),.int .u64 (z1:Int),.int .u64 (z2:Int),.int .u64 (z3:Int)])∧(Holds W (w.heap.size+1) 69 #[.int .u64 0,.int .u64 0,.int .u64 0,.int .u64 0,.int .u64 0,.int .u64 0,.int .u64 0,.int .u64 0,.int .u64 0,.int .u64 0,.int .u64 0,.int .u64 0])∧(Below w.heap.size w W)∧(CMet W)):=lH fun W h=>⟨ma.out.under h (Holds.lt ma),c_.out.under h (Holds.lt c_),q9.out.trans (h.mono q9.out.size),ja.out.under h⟩
  refine wp_region_noPanic ?_
  refine wp_region_held_drew (S:=fun W=>Below u0.heap.size u0 W) (by kernel_rfl) ((Below.refl _ u0).drew) (fun hHeld=>?_)
  obtain ⟨V,hV⟩:∃ W,W=u0.drew:=⟨_,rfl⟩
  rw [←hV]
  have aw:Hid (Below u0.heap.size u0 V):=lH (by rw [hV];exact (Below.refl _ u0).drew)
  replace hHeld:(fun W=>Below u0.heap.size u0 W) V:=aw.out
  clear hV
  refine tz 0 ⟨some 11,.fieldAddr 69 (.tmp 1) 2,0,_,_,none⟩ rfl hHeld ?_
  try simp only [aP]
  refine tk 1 ⟨some 12,.load 67 (.tmp 11),67,_,_,none⟩ ?_ rfl ?_ hHeld ?_
  rotate_left 1
  ·(intro W hW;have bX:=ma.out.under hW (Holds.lt ma.out);have k8:=bX.cell 8;have k9:=bX.cell 9;have qt:=bX.cell 10;have qg:=bX.cell 11;(try dsimp only at hW);go_simp;try with_reducible rfl)
  try simp only [aP]
  refine tz 2 ⟨some 13,.fieldAddr 69 (.tmp 1) 2,0,_,_,none⟩ rfl hHeld ?_
  try simp only [aP]
  refine tk 3 ⟨some 14,.load 67 (.tmp 13),67,_,_,none⟩ ?_ rfl ?_ hHeld ?_
  rotate_left 1
  ·(intro W hW;have bX:=ma.out.under hW (Holds.lt ma.out);have k8:=bX.cell 8;have k9:=bX.cell 9;have qt:=bX.cell 10;have qg:=bX.cell 11;(try dsimp only at hW);go_simp;try with_reducible rfl)
  try simp only [aP]
  refine tz 5 ⟨some 16,.fieldAddr 69 (.tmp 1) 1,0,_,_,none⟩ rfl hHeld ?_
  try simp only [aP]
  refine tk 6 ⟨some 17,.load 67 (.tmp 16),67,_,_,none⟩ ?_ rfl ?_ hHeld ?_
  rotate_left 1
  ·(intro W hW;have bX:=ma.out.under hW (Holds.lt ma.out);have k4:=bX.cell 4;have k5:=bX.cell 5;have k6:=bX.cell 6;have k7:=bX.cell 7;(try dsimp only at hW);go_simp;try with_reducible rfl)
  try simp only [aP]
  refine tz 7 ⟨some 18,.fieldAddr 69 (.tmp 1) 1,0,_,_,none⟩ rfl hHeld ?_
  try simp only [aP]
  refine tk 8 ⟨some 19,.load 67 (.tmp 18),67,_,_,none⟩ ?_ rfl ?_ hHeld ?_
  rotate_left 1
  ·(intro W hW;have bX:=ma.out.under hW (Holds.lt ma.out);have k4:=bX.cell 4;have k5:=bX.cell 5;have k6:=bX.cell 6;have k7:=bX.cell 7;(try dsimp only at hW);go_simp;try with_reducible rfl)
  try simp only [aP]
  refine wpAnyH_ready (rs:=[4,10,11]) (by kernel_rfl) (by simp) ?_
  refine AllReadyH.cons (o:=⟨some 15,.call ⟨ .value (.func 56),#[.tmp 12,.tmp 14],#[67,67]⟩,67,_,_,none⟩) rfl (fun K hK=>?_) ?_
  go_simp
  refine (mulE V (ja.out.under aw) j.z j.z Hz Hz (by rw [←og.out];exact cL.out)).mono ?_
  rintro e V4 ⟨rfl,ab⟩
  have cN:=lH (aw.out.trans (ab.mono aw.out.size))
  clear ab
  clear aw
  go_simp
  refine hK.out _ _ (cN.out) (fun hHeld=>?_)
  clear hK K
  try simp only [aP]
  refine wpAnyH_ready (rs:=[9,10,11]) (by kernel_rfl) (by simp) ?_
  refine AllReadyH.cons (o:=⟨some 20,.call ⟨ .value (.func 56),#[.tmp 17,.tmp 19],#[67,67]⟩,67,_,_,none⟩) rfl (fun K hK=>?_) ?_
  go_simp
  refine (mulE V4 (ja.out.under cN) j.y j.y Hy Hy (by rw [←kB.out];exact bc.out)).mono ?_
  rintro e pg ⟨rfl,ab⟩
  have cl:=lH (cN.out.trans (ab.mono cN.out.size))
  clear ab
  clear cN
  go_simp
  refine hK.out _ _ (cl.out) (fun hHeld=>?_)
  clear hK K
  try simp only [aP]
  refine wpAnyH_ready (rs:=[10,11]) (by kernel_rfl) (by simp) ?_
  refine AllReadyH.cons (o:=⟨some 3,.alloc 67,0,_,_,none⟩) rfl (fun K hK=>?_) ?_
  obtain ⟨mu,hN⟩:∃ W,W=pg.alloc (.cells #[.int .u64 0,.int .u64 0,.int .u64 0,.int .u64 0] 67):=⟨_,rfl⟩
  go_simp
  rw [←hN]
  obtain ⟨g3,hg⟩:∃ g,g=pg.heap.size:=⟨_,rfl⟩
  rw [←hg]
  have jp:Hid (NumOr mu g3 none):=lH (by rw [hN,hg];exact NumOr.fresh _)
  have eE:=lH (by rw [hN];exact cl.out.alloc cl.out.size _:Below u0.heap.size u0 mu)
  have bL:Hid (u0.heap.size≤g3):=lH (by rw [hg];exact cl.out.size)
  clear hN hg
  clear cl
  refine hK.out _ _ (eE.out) (fun hHeld=>?_)
  clear hK K
  try simp only [aP]
  refine rdy 11 ⟨some 4,.alloc 67,0,_,_,none⟩ rfl (fun K hK=>?_)
  obtain ⟨jq,hN⟩:∃ W,W=mu.alloc (.cells #[.int .u64 0,.int .u64 0,.int .u64 0,.int .u64 0] 67):=⟨_,rfl⟩
  go_simp
  rw [←hN]
  obtain ⟨g4,hg⟩:∃ g,g=mu.heap.size:=⟨_,rfl⟩
  rw [←hg]
  have jI:Hid (NumOr jq g4 none):=lH (by rw [hN,hg];exact NumOr.fresh _)
  have gI:=lH (by rw [hN];exact eE.out.alloc eE.out.size _:Below u0.heap.size u0 jq)
  have bM:Hid (u0.heap.size≤g4):=lH (by rw [hg];exact eE.out.size)
  have aC:Hid (g3≠g4):=lH (by rw [hg];exact Nat.ne_of_lt jp.out.lt)
  have fN:Hid (NumOr jq g3 none):=lH (by rw [hN];exact NumOr.alloc jp _)
  clear hN hg
  have az:=lH (show w.heap.size+1<g3 from (by have h1:=Holds.lt c_.out;have h2:=bL.out;omega))
  have bP:=lH (show w.heap.size+1<g4 from (by have h1:=Holds.lt c_.out;have h2:=bM.out;omega))
  clear eE jp
  refine hK.out _ _ (gI.out) (fun hHeld=>?_)
  clear hK K
  try simp only [aP]
  refine rdy 12 ⟨none,.store 67 (.tmp 3) (.tmp 15),0,_,_,none⟩ rfl (fun K hK=>?_)
  obtain ⟨am,av,au,ao,⟨z0,o0⟩,⟨z1,o1⟩,⟨z2,o2⟩,⟨z3,o3⟩⟩:=NumOr.facts fN.out
  obtain ⟨ia,hN⟩:∃ W,W=((((jq.setCell ⟨g3,0,none⟩ (.int .u64 (kk:Int))).setCell ⟨g3,1,none⟩ (.int .u64 (kc:Int))).setCell ⟨g3,2,none⟩ (.int .u64 (jV:Int))).setCell ⟨g3,3,none⟩ (.int .u64 (j4:Int))):=⟨_,rfl⟩
  go_simp
  rw [←hN]
  have iV:Hid (NumOr ia g3 (some (en zz))):=lH (by rw [hN];exact NumOr.set fN cL)
  have dZ:=lH (by rw [hN];exact below4 gI bL _ _ _ _:Below u0.heap.size u0 ia)
  have eh:Hid (NumOr ia g4 none):=lH (by rw [hN];exact NumOr.aside4 jI aC.out.symm _ _ _ _)
  clear hN z0 o0 z1 o1 z2 o2 z3 o3 am av au ao
  clear gI fN jI
  refine hK.out _ _ (dZ.out) (fun hHeld=>?_)
  clear hK K
  try simp only [aP]
  refine rdy 13 ⟨none,.store 67 (.tmp 4) (.tmp 20),0,_,_,none⟩ rfl (fun K hK=>?_)
  obtain ⟨am,av,au,ao,⟨z0,o0⟩,⟨z1,o1⟩,⟨z2,o2⟩,⟨z3,o3⟩⟩:=NumOr.facts eh.out
  obtain ⟨gz,hN⟩:∃ W,W=((((ia.setCell ⟨g4,0,none⟩ (.int .u64 (jX:Int))).setCell ⟨g4,1,none⟩ (.int .u64 (jY:Int))).setCell ⟨g4,2,none⟩ (.int .u64 (jW:Int))).setCell ⟨g4,3,none⟩ (.int .u64 (ke:Int))):=⟨_,rfl⟩
  go_simp
  rw [←hN]
  have j8:Hid (NumOr gz g4 (some (en yy))):=lH (by rw [hN];exact NumOr.set eh bc)
  have fC:=lH (by rw [hN];exact below4 dZ bM _ _ _ _:Below u0.heap.size u0 gz)
  have km:Hid (NumOr gz g3 (some (en zz))):=lH (by rw [hN];exact NumOr.aside4 iV aC _ _ _ _)
  clear hN z0 o0 z1 o1 z2 o2 z3 o3 am av au ao
  clear dZ iV eh
  refine hK.out _ _ (fC.out) (fun hHeld=>?_)
  clear hK K
  try simp only [aP]
  refine dn ?_
  rw [ju.out]
  exact ⟨rfl,g3,g4,rfl,rfl,HF _ fC,km,j8,az,bP⟩
  refine AllReadyH.cons (o:=⟨some 4,.alloc 67,0,_,_,none⟩) rfl (fun K hK=>?_) AllReadyH.nil
  obtain ⟨mw,hN⟩:∃ W,W=pg.alloc (.cells #[.int .u64 0,.int .u64 0,.int .u64 0,.int .u64 0] 67):=⟨_,rfl⟩
  go_simp
  rw [←hN]
  obtain ⟨g4,hg⟩:∃ g,g=pg.heap.size:=⟨_,rfl⟩
  rw [←hg]
  have jl:Hid (NumOr mw g4 none):=lH (by rw [hN,hg];exact NumOr.fresh _)
  have dS:=lH (by rw [hN];exact cl.out.alloc cl.out.size _:Below u0.heap.size u0 mw)
  have bM:Hid (u0.heap.size≤g4):=lH (by rw [hg];exact cl.out.size)
  clear hN hg
  clear cl
  refine hK.out _ _ (dS.out) (fun hHeld=>?_)
  clear hK K
  try simp only [aP]
  refine rdy 10 ⟨some 3,.alloc 67,0,_,_,none⟩ rfl (fun K hK=>?_)
  obtain ⟨jO,hN⟩:∃ W,W=mw.alloc (.cells #[.int .u64 0,.int .u64 0,.int .u64 0,.int .u64 0] 67):=⟨_,rfl⟩
  go_simp
  rw [←hN]
  obtain ⟨g3,hg⟩:∃ g,g=mw.heap.size:=⟨_,rfl⟩
  rw [←hg]
  have fJ:Hid (NumOr jO g3 none):=lH (by rw [hN,hg];exact NumOr.fresh _)
  have gG:=lH (by rw [hN];exact dS.out.alloc dS.out.size _:Below u0.heap.size u0 jO)
  have bL:Hid (u0.heap.size≤g3):=lH (by rw [hg];exact dS.out.size)
  have aB:Hid (g4≠g3):=lH (by rw [hg];exact Nat.ne_of_lt jl.out.lt)
  have jQ:Hid (NumOr jO g4 none):=lH (by rw [hN];exact NumOr.alloc jl _)
  clear hN hg
  have az:=lH (show w.heap.size+1<g3 from (by have h1:=Holds.lt c_.out;have h2:=bL.out;omega))
  have bP:=lH (show w.heap.size+1<g4 from (by have h1:=Holds.lt c_.out;have h2:=bM.out;omega))
  clear dS jl
  refine hK.out _ _ (gG.out) (fun hHeld=>?_)
  clear hK K
  try simp only [aP]
  refine rdy 12 ⟨none,.store 67 (.tmp 3) (.tmp 15),0,_,_,none⟩ rfl (fun K hK=>?_)
  obtain ⟨am,av,au,ao,⟨z0,o0⟩,⟨z1,o1⟩,⟨z2,o2⟩,⟨z3,o3⟩⟩:=NumOr.facts fJ.out
  obtain ⟨hM,hN⟩:∃ W,W=((((jO.setCell ⟨g3,0,none⟩ (.int .u64 (kk:Int))).setCell ⟨g3,1,none⟩ (.int .u64 (kc:Int))).setCell ⟨g3,2,none⟩ (.int .u64 (jV:Int))).setCell ⟨g3,3,none⟩ (.int .u64 (j4:Int))):=⟨_,rfl⟩
  go_simp
  rw [←hN]
  have iD:Hid (NumOr hM g3 (some (en zz))):=lH (by rw [hN];exact NumOr.set fJ cL)
  have dA:=lH (by rw [hN];exact below4 gG bL _ _ _ _:Below u0.heap.size u0 hM)
  have eJ:Hid (NumOr hM g4 none):=lH (by rw [hN];exact NumOr.aside4 jQ aB _ _ _ _)
  clear hN z0 o0 z1 o1 z2 o2 z3 o3 am av au ao
  clear gG jQ fJ
  refine hK.out _ _ (dA.out) (fun hHeld=>?_)
  clear hK K
  try simp only [aP]
  refine rdy 13 ⟨none,.store 67 (.tmp 4) (.tmp 20),0,_,_,none⟩ rfl (fun K hK=>?_)
  obtain ⟨am,av,au,ao,⟨z0,o0⟩,⟨z1,o1⟩,⟨z2,o2⟩,⟨z3,o3⟩⟩:=NumOr.facts eJ.out
  obtain ⟨f_,hN⟩:∃ W,W=((((hM.setCell ⟨g4,0,none⟩ (.int .u64 (jX:Int))).setCell ⟨g4,1,none⟩ (.int .u64 (jY:Int))).setCell ⟨g4,2,none⟩ (.int .u64 (jW:Int))).setCell ⟨g4,3,none⟩ (.int .u64 (ke:Int))):=⟨_,rfl⟩
  go_simp
  rw [←hN]
  have j_:Hid (NumOr f_ g4 (some (en yy))):=lH (by rw [hN];exact NumOr.set eJ bc)
  have fB:=lH (by rw [hN];exact below4 dA bM _ _ _ _:Below u0.heap.size u0 f_)
  have kd:Hid (NumOr f_ g3 (some (en zz))):=lH (by rw [hN];exact NumOr.aside4 iD aB.out.symm _ _ _ _)
  clear hN z0 o0 z1 o1 z2 o2 z3 o3 am av au ao
  clear dA eJ iD
  refine hK.out _ _ (fB.out) (fun hHeld=>?_)
  clear hK K
  try simp only [aP]
  refine dn ?_
  rw [ju.out]
  exact ⟨rfl,g3,g4,rfl,rfl,HF _ fB,kd,j_,az,bP⟩
  refine AllReadyH.cons (o:=⟨some 3,.alloc 67,0,_,_,none⟩) rfl (fun K hK=>?_) ?_
  obtain ⟨oK,hN⟩:∃ W,W=V4.alloc (.cells #[.int .u64 0,.int .u64 0,.int .u64 0,.int .u64 0] 67):=⟨_,rfl⟩
  go_simp
  rw [←hN]
  obtain ⟨g3,hg⟩:∃ g,g=V4.heap.size:=⟨_,rfl⟩
  rw [←hg]
  have iW:Hid (NumOr oK g3 none):=lH (by rw [hN,hg];exact NumOr.fresh _)
  have cG:=lH (by rw [hN];exact cN.out.alloc cN.out.size _:Below u0.heap.size u0 oK)
  have bL:Hid (u0.heap.size≤g3):=lH (by rw [hg];exact cN.out.size)
  clear hN hg
  clear cN
  refine hK.out _ _ (cG.out) (fun hHeld=>?_)
  clear hK K
  try simp only [aP]
  refine wpAnyH_ready (rs:=[9,11]) (by kernel_rfl) (by simp) ?_
  refine AllReadyH.cons (o:=⟨some 20,.call ⟨ .value (.func 56),#[.tmp 17,.tmp 19],#[67,67]⟩,67,_,_,none⟩) rfl (fun K hK=>?_) ?_
  go_simp
  refine (mulE oK (ja.out.under cG) j.y j.y Hy Hy (by rw [←kB.out];exact bc.out)).mono ?_
  rintro e nz ⟨rfl,ab⟩
  have dP:=lH (cG.out.trans (ab.mono cG.out.size))
  have jh:Hid (NumOr nz g3 none):=lH (NumOr.under iW ab)
  clear ab
  clear cG iW
  go_simp
  refine hK.out _ _ (dP.out) (fun hHeld=>?_)
  clear hK K
  try simp only [aP]
  refine rdy 11 ⟨some 4,.alloc 67,0,_,_,none⟩ rfl (fun K hK=>?_)
  obtain ⟨jB,hN⟩:∃ W,W=nz.alloc (.cells #[.int .u64 0,.int .u64 0,.int .u64 0,.int .u64 0] 67):=⟨_,rfl⟩
  go_simp
  rw [←hN]
  obtain ⟨g4,hg⟩:∃ g,g=nz.heap.size:=⟨_,rfl⟩
  rw [←hg]
  have jr:Hid (NumOr jB g4 none):=lH (by rw [hN,hg];exact NumOr.fresh _)
  have fT:=lH (by rw [hN];exact dP.out.alloc dP.out.size _:Below u0.heap.size u0 jB)
  have bM:Hid (u0.heap.size≤g4):=lH (by rw [hg];exact dP.out.size)
  have aC:Hid (g3≠g4):=lH (by rw [hg];exact Nat.ne_of_lt jh.out.lt)
  have gJ:Hid (NumOr jB g3 none):=lH (by rw [hN];exact NumOr.alloc jh _)
  clear hN hg
  have az:=lH (show w.heap.size+1<g3 from (by have h1:=Holds.lt c_.out;have h2:=bL.out;omega))
  have bP:=lH (show w.heap.size+1<g4 from (by have h1:=Holds.lt c_.out;have h2:=bM.out;omega))
  clear dP jh
  refine hK.out _ _ (fT.out) (fun hHeld=>?_)
  clear hK K
  try simp only [aP]
  refine rdy 12 ⟨none,.store 67 (.tmp 3) (.tmp 15),0,_,_,none⟩ rfl (fun K hK=>?_)
  obtain ⟨am,av,au,ao,⟨z0,o0⟩,⟨z1,o1⟩,⟨z2,o2⟩,⟨z3,o3⟩⟩:=NumOr.facts gJ.out
  obtain ⟨f9,hN⟩:∃ W,W=((((jB.setCell ⟨g3,0,none⟩ (.int .u64 (kk:Int))).setCell ⟨g3,1,none⟩ (.int .u64 (kc:Int))).setCell ⟨g3,2,none⟩ (.int .u64 (jV:Int))).setCell ⟨g3,3,none⟩ (.int .u64 (j4:Int))):=⟨_,rfl⟩
  go_simp
  rw [←hN]
  have iX:Hid (NumOr f9 g3 (some (en zz))):=lH (by rw [hN];exact NumOr.set gJ cL)
  have dt:=lH (by rw [hN];exact below4 fT bL _ _ _ _:Below u0.heap.size u0 f9)
  have dY:Hid (NumOr f9 g4 none):=lH (by rw [hN];exact NumOr.aside4 jr aC.out.symm _ _ _ _)
  clear hN z0 o0 z1 o1 z2 o2 z3 o3 am av au ao
  clear fT gJ jr
  refine hK.out _ _ (dt.out) (fun hHeld=>?_)
  clear hK K
  try simp only [aP]
  refine rdy 13 ⟨none,.store 67 (.tmp 4) (.tmp 20),0,_,_,none⟩ rfl (fun K hK=>?_)
  obtain ⟨am,av,au,ao,⟨z0,o0⟩,⟨z1,o1⟩,⟨z2,o2⟩,⟨z3,o3⟩⟩:=NumOr.facts dY.out
  obtain ⟨fX,hN⟩:∃ W,W=((((f9.setCell ⟨g4,0,none⟩ (.int .u64 (jX:Int))).setCell ⟨g4,1,none⟩ (.int .u64 (jY:Int))).setCell ⟨g4,2,none⟩ (.int .u64 (jW:Int))).setCell ⟨g4,3,none⟩ (.int .u64 (ke:Int))):=⟨_,rfl⟩
  go_simp
  rw [←hN]
  have j7:Hid (NumOr fX g4 (some (en yy))):=lH (by rw [hN];exact NumOr.set dY bc)
  have fh:=lH (by rw [hN];exact below4 dt bM _ _ _ _:Below u0.heap.size u0 fX)
  have j9:Hid (NumOr fX g3 (some (en zz))):=lH (by rw [hN];exact NumOr.aside4 iX aC _ _ _ _)
  clear hN z0 o0 z1 o1 z2 o2 z3 o3 am av au ao
  clear dt iX dY
  refine hK.out _ _ (fh.out) (fun hHeld=>?_)
  clear hK K
  try simp only [aP]
  refine dn ?_
  rw [ju.out]
  exact ⟨rfl,g3,g4,rfl,rfl,HF _ fh,j9,j7,az,bP⟩
  refine AllReadyH.cons (o:=⟨some 4,.alloc 67,0,_,_,none⟩) rfl (fun K hK=>?_) AllReadyH.nil
  obtain ⟨mt,hN⟩:∃ W,W=oK.alloc (.cells #[.int .u64 0,.int .u64 0,.int .u64 0,.int .u64 0] 67):=⟨_,rfl⟩
  go_simp
  rw [←hN]
  obtain ⟨g4,hg⟩:∃ g,g=oK.heap.size:=⟨_,rfl⟩
  rw [←hg]
  have kJ:Hid (NumOr mt g4 none):=lH (by rw [hN,hg];exact NumOr.fresh _)
  have ec:=lH (by rw [hN];exact cG.out.alloc cG.out.size _:Below u0.heap.size u0 mt)
  have bM:Hid (u0.heap.size≤g4):=lH (by rw [hg];exact cG.out.size)
  have aC:Hid (g3≠g4):=lH (by rw [hg];exact Nat.ne_of_lt iW.out.lt)
  have k_:Hid (NumOr mt g3 none):=lH (by rw [hN];exact NumOr.alloc iW _)
  clear hN hg
  have az:=lH (show w.heap.size+1<g3 from (by have h1:=Holds.lt c_.out;have h2:=bL.out;omega))
  have bP:=lH (show w.heap.size+1<g4 from (by have h1:=Holds.lt c_.out;have h2:=bM.out;omega))
  clear cG iW
  refine hK.out _ _ (ec.out) (fun hHeld=>?_)
  clear hK K
  try simp only [aP]
  refine rdy 9 ⟨some 20,.call ⟨ .value (.func 56),#[.tmp 17,.tmp 19],#[67,67]⟩,67,_,_,none⟩ rfl (fun K hK=>?_)
  go_simp
  refine (mulE mt (ja.out.under ec) j.y j.y Hy Hy (by rw [←kB.out];exact bc.out)).mono ?_
  rintro e lG ⟨rfl,ab⟩
  have gL:=lH (ec.out.trans (ab.mono ec.out.size))
  have gj:Hid (NumOr lG g3 none):=lH (NumOr.under k_ ab)
  have jD:Hid (NumOr lG g4 none):=lH (NumOr.under kJ ab)
  clear ab
  clear ec k_ kJ
  go_simp
  refine hK.out _ _ (gL.out) (fun hHeld=>?_)
  clear hK K
  try simp only [aP]
  refine rdy 12 ⟨none,.store 67 (.tmp 3) (.tmp 15),0,_,_,none⟩ rfl (fun K hK=>?_)
  obtain ⟨am,av,au,ao,⟨z0,o0⟩,⟨z1,o1⟩,⟨z2,o2⟩,⟨z3,o3⟩⟩:=NumOr.facts gj.out
  obtain ⟨fO,hN⟩:∃ W,W=((((lG.setCell ⟨g3,0,none⟩ (.int .u64 (kk:Int))).setCell ⟨g3,1,none⟩ (.int .u64 (kc:Int))).setCell ⟨g3,2,none⟩ (.int .u64 (jV:Int))).setCell ⟨g3,3,none⟩ (.int .u64 (j4:Int))):=⟨_,rfl⟩
  go_simp
  rw [←hN]
  have i6:Hid (NumOr fO g3 (some (en zz))):=lH (by rw [hN];exact NumOr.set gj cL)
  have eN:=lH (by rw [hN];exact below4 gL bL _ _ _ _:Below u0.heap.size u0 fO)
  have ew:Hid (NumOr fO g4 none):=lH (by rw [hN];exact NumOr.aside4 jD aC.out.symm _ _ _ _)
  clear hN z0 o0 z1 o1 z2 o2 z3 o3 am av au ao
  clear gL gj jD
  refine hK.out _ _ (eN.out) (fun hHeld=>?_)
  clear hK K
  try simp only [aP]
  refine rdy 13 ⟨none,.store 67 (.tmp 4) (.tmp 20),0,_,_,none⟩ rfl (fun K hK=>?_)
  obtain ⟨am,av,au,ao,⟨z0,o0⟩,⟨z1,o1⟩,⟨z2,o2⟩,⟨z3,o3⟩⟩:=NumOr.facts ew.out
  obtain ⟨gl,hN⟩:∃ W,W=((((fO.setCell ⟨g4,0,none⟩ (.int .u64 (jX:Int))).setCell ⟨g4,1,none⟩ (.int .u64 (jY:Int))).setCell ⟨g4,2,none⟩ (.int .u64 (jW:Int))).setCell ⟨g4,3,none⟩ (.int .u64 (ke:Int))):=⟨_,rfl⟩
  go_simp
  rw [←hN]
  have kq:Hid (NumOr gl g4 (some (en yy))):=lH (by rw [hN];exact NumOr.set ew bc)
  have eZ:=lH (by rw [hN];exact below4 eN bM _ _ _ _:Below u0.heap.size u0 gl)
  have ko:Hid (NumOr gl g3 (some (en zz))):=lH (by rw [hN];exact NumOr.aside4 i6 aC _ _ _ _)
  clear hN z0 o0 z1 o1 z2 o2 z3 o3 am av au ao
  clear eN i6 ew
  refine hK.out _ _ (eZ.out) (fun hHeld=>?_)
  clear hK K
  try simp only [aP]
  refine dn ?_
  rw [ju.out]
  exact ⟨rfl,g3,g4,rfl,rfl,HF _ eZ,ko,kq,az,bP⟩
  refine AllReadyH.cons (o:=⟨some 4,.alloc 67,0,_,_,none⟩) rfl (fun K hK=>?_) AllReadyH.nil
  obtain ⟨oz,hN⟩:∃ W,W=V4.alloc (.cells #[.int .u64 0,.int .u64 0,.int .u64 0,.int .u64 0] 67):=⟨_,rfl⟩
  go_simp
  rw [←hN]
  obtain ⟨g4,hg⟩:∃ g,g=V4.heap.size:=⟨_,rfl⟩
  rw [←hg]
  have iS:Hid (NumOr oz g4 none):=lH (by rw [hN,hg];exact NumOr.fresh _)
  have cF:=lH (by rw [hN];exact cN.out.alloc cN.out.size _:Below u0.heap.size u0 oz)
  have bM:Hid (u0.heap.size≤g4):=lH (by rw [hg];exact cN.out.size)
  clear hN hg
  clear cN
  refine hK.out _ _ (cF.out) (fun hHeld=>?_)
  clear hK K
  try simp only [aP]
  refine wpAnyH_ready (rs:=[9,10]) (by kernel_rfl) (by simp) ?_
  refine AllReadyH.cons (o:=⟨some 20,.call ⟨ .value (.func 56),#[.tmp 17,.tmp 19],#[67,67]⟩,67,_,_,none⟩) rfl (fun K hK=>?_) ?_
  go_simp
  refine (mulE oz (ja.out.under cF) j.y j.y Hy Hy (by rw [←kB.out];exact bc.out)).mono ?_
  rintro e nO ⟨rfl,ab⟩
  have dT:=lH (cF.out.trans (ab.mono cF.out.size))
  have jj:Hid (NumOr nO g4 none):=lH (NumOr.under iS ab)
  clear ab
  clear cF iS
  go_simp
  refine hK.out _ _ (dT.out) (fun hHeld=>?_)
  clear hK K
  try simp only [aP]
  refine rdy 10 ⟨some 3,.alloc 67,0,_,_,none⟩ rfl (fun K hK=>?_)
  obtain ⟨js,hN⟩:∃ W,W=nO.alloc (.cells #[.int .u64 0,.int .u64 0,.int .u64 0,.int .u64 0] 67):=⟨_,rfl⟩
  go_simp
  rw [←hN]
  obtain ⟨g3,hg⟩:∃ g,g=nO.heap.size:=⟨_,rfl⟩
  rw [←hg]
  have gT:Hid (NumOr js g3 none):=lH (by rw [hN,hg];exact NumOr.fresh _)
  have fW:=lH (by rw [hN];exact dT.out.alloc dT.out.size _:Below u0.heap.size u0 js)
  have bL:Hid (u0.heap.size≤g3):=lH (by rw [hg];exact dT.out.size)
  have aB:Hid (g4≠g3):=lH (by rw [hg];exact Nat.ne_of_lt jj.out.lt)
  have jv:Hid (NumOr js g4 none):=lH (by rw [hN];exact NumOr.alloc jj _)
  clear hN hg
  have az:=lH (show w.heap.size+1<g3 from (by have h1:=Holds.lt c_.out;have h2:=bL.out;omega))
  have bP:=lH (show w.heap.size+1<g4 from (by have h1:=Holds.lt c_.out;have h2:=bM.out;omega))
  clear dT jj
  refine hK.out _ _ (fW.out) (fun hHeld=>?_)
  clear hK K
  try simp only [aP]
  refine rdy 12 ⟨none,.store 67 (.tmp 3) (.tmp 15),0,_,_,none⟩ rfl (fun K hK=>?_)
  obtain ⟨am,av,au,ao,⟨z0,o0⟩,⟨z1,o1⟩,⟨z2,o2⟩,⟨z3,o3⟩⟩:=NumOr.facts gT.out
  obtain ⟨fK,hN⟩:∃ W,W=((((js.setCell ⟨g3,0,none⟩ (.int .u64 (kk:Int))).setCell ⟨g3,1,none⟩ (.int .u64 (kc:Int))).setCell ⟨g3,2,none⟩ (.int .u64 (jV:Int))).setCell ⟨g3,3,none⟩ (.int .u64 (j4:Int))):=⟨_,rfl⟩
  go_simp
  rw [←hN]
  have iE:Hid (NumOr fK g3 (some (en zz))):=lH (by rw [hN];exact NumOr.set gT cL)
  have eo:=lH (by rw [hN];exact below4 fW bL _ _ _ _:Below u0.heap.size u0 fK)
  have dH:Hid (NumOr fK g4 none):=lH (by rw [hN];exact NumOr.aside4 jv aB _ _ _ _)
  clear hN z0 o0 z1 o1 z2 o2 z3 o3 am av au ao
  clear fW jv gT
  refine hK.out _ _ (eo.out) (fun hHeld=>?_)
  clear hK K
  try simp only [aP]
  refine rdy 13 ⟨none,.store 67 (.tmp 4) (.tmp 20),0,_,_,none⟩ rfl (fun K hK=>?_)
  obtain ⟨am,av,au,ao,⟨z0,o0⟩,⟨z1,o1⟩,⟨z2,o2⟩,⟨z3,o3⟩⟩:=NumOr.facts dH.out
  obtain ⟨gi,hN⟩:∃ W,W=((((fK.setCell ⟨g4,0,none⟩ (.int .u64 (jX:Int))).setCell ⟨g4,1,none⟩ (.int .u64 (jY:Int))).setCell ⟨g4,2,none⟩ (.int .u64 (jW:Int))).setCell ⟨g4,3,none⟩ (.int .u64 (ke:Int))):=⟨_,rfl⟩
  go_simp
  rw [←hN]
  have kb:Hid (NumOr gi g4 (some (en yy))):=lH (by rw [hN];exact NumOr.set dH bc)
  have fv:=lH (by rw [hN];exact below4 eo bM _ _ _ _:Below u0.heap.size u0 gi)
  have ka:Hid (NumOr gi g3 (some (en zz))):=lH (by rw [hN];exact NumOr.aside4 iE aB.out.symm _ _ _ _)
  clear hN z0 o0 z1 o1 z2 o2 z3 o3 am av au ao
  clear eo dH iE
  refine hK.out _ _ (fv.out) (fun hHeld=>?_)
  clear hK K
  try simp only [aP]
  refine dn ?_
  rw [ju.out]
  exact ⟨rfl,g3,g4,rfl,rfl,HF _ fv,ka,kb,az,bP⟩
  refine AllReadyH.cons (o:=⟨some 3,.alloc 67,0,_,_,none⟩) rfl (fun K hK=>?_) AllReadyH.nil
  obtain ⟨mv,hN⟩:∃ W,W=oz.alloc (.cells #[.int .u64 0,.int .u64 0,.int .u64 0,.int .u64 0] 67):=⟨_,rfl⟩
  go_simp
  rw [←hN]
  obtain ⟨g3,hg⟩:∃ g,g=oz.heap.size:=⟨_,rfl⟩
  rw [←hg]
  have kD:Hid (NumOr mv g3 none):=lH (by rw [hN,hg];exact NumOr.fresh _)
  have dN:=lH (by rw [hN];exact cF.out.alloc cF.out.size _:Below u0.heap.size u0 mv)
  have bL:Hid (u0.heap.size≤g3):=lH (by rw [hg];exact cF.out.size)
  have aB:Hid (g4≠g3):=lH (by rw [hg];exact Nat.ne_of_lt iS.out.lt)
  have lF:Hid (NumOr mv g4 none):=lH (by rw [hN];exact NumOr.alloc iS _)
  clear hN hg
  have az:=lH (show w.heap.size+1<g3 from (by have h1:=Holds.lt c_.out;have h2:=bL.out;omega))
  have bP:=lH (show w.heap.size+1<g4 from (by have h1:=Holds.lt c_.out;have h2:=bM.out;omega))
  clear cF iS
  refine hK.out _ _ (dN.out) (fun hHeld=>?_)
  clear hK K
  try simp only [aP]
  refine rdy 9 ⟨some 20,.call ⟨ .value (.func 56),#[.tmp 17,.tmp 19],#[67,67]⟩,67,_,_,none⟩ rfl (fun K hK=>?_)
  go_simp
  refine (mulE mv (ja.out.under dN) j.y j.y Hy Hy (by rw [←kB.out];exact bc.out)).mono ?_
  rintro e lT ⟨rfl,ab⟩
  have fM:=lH (dN.out.trans (ab.mono dN.out.size))
  have jC:Hid (NumOr lT g4 none):=lH (NumOr.under lF ab)
  have f8:Hid (NumOr lT g3 none):=lH (NumOr.under kD ab)
  clear ab
  clear dN lF kD
  go_simp
  refine hK.out _ _ (fM.out) (fun hHeld=>?_)
  clear hK K
  try simp only [aP]
  refine rdy 12 ⟨none,.store 67 (.tmp 3) (.tmp 15),0,_,_,none⟩ rfl (fun K hK=>?_)
  obtain ⟨am,av,au,ao,⟨z0,o0⟩,⟨z1,o1⟩,⟨z2,o2⟩,⟨z3,o3⟩⟩:=NumOr.facts f8.out
  obtain ⟨fQ,hN⟩:∃ W,W=((((lT.setCell ⟨g3,0,none⟩ (.int .u64 (kk:Int))).setCell ⟨g3,1,none⟩ (.int .u64 (kc:Int))).setCell ⟨g3,2,none⟩ (.int .u64 (jV:Int))).setCell ⟨g3,3,none⟩ (.int .u64 (j4:Int))):=⟨_,rfl⟩
  go_simp
  rw [←hN]
  have iF:Hid (NumOr fQ g3 (some (en zz))):=lH (by rw [hN];exact NumOr.set f8 cL)
  have ei:=lH (by rw [hN];exact below4 fM bL _ _ _ _:Below u0.heap.size u0 fQ)
  have ep:Hid (NumOr fQ g4 none):=lH (by rw [hN];exact NumOr.aside4 jC aB _ _ _ _)
  clear hN z0 o0 z1 o1 z2 o2 z3 o3 am av au ao
  clear fM jC f8
  refine hK.out _ _ (ei.out) (fun hHeld=>?_)
  clear hK K
  try simp only [aP]
  refine rdy 13 ⟨none,.store 67 (.tmp 4) (.tmp 20),0,_,_,none⟩ rfl (fun K hK=>?_)
  obtain ⟨am,av,au,ao,⟨z0,o0⟩,⟨z1,o1⟩,⟨z2,o2⟩,⟨z3,o3⟩⟩:=NumOr.facts ep.out
  obtain ⟨gC,hN⟩:∃ W,W=((((fQ.setCell ⟨g4,0,none⟩ (.int .u64 (jX:Int))).setCell ⟨g4,1,none⟩ (.int .u64 (jY:Int))).setCell ⟨g4,2,none⟩ (.int .u64 (jW:Int))).setCell ⟨g4,3,none⟩ (.int .u64 (ke:Int))):=⟨_,rfl⟩
  go_simp
  rw [←hN]
  have jS:Hid (NumOr gC g4 (some (en yy))):=lH (by rw [hN];exact NumOr.set ep bc)
  have fq:=lH (by rw [hN];exact below4 ei bM _ _ _ _:Below u0.heap.size u0 gC)
  have kj:Hid (NumOr gC g3 (some (en zz))):=lH (by rw [hN];exact NumOr.aside4 iF aB.out.symm _ _ _ _)
  clear hN z0 o0 z1 o1 z2 o2 z3 o3 am av au ao
  clear ei ep iF
  refine hK.out _ _ (fq.out) (fun hHeld=>?_)
  clear hK K
  try simp only [aP]
  refine dn ?_
  rw [ju.out]
  exact ⟨rfl,g3,g4,rfl,rfl,HF _ fq,kj,jS,az,bP⟩
  refine AllReadyH.cons (o:=⟨some 3,.alloc 67,0,_,_,none⟩) rfl (fun K hK=>?_) ?_
  obtain ⟨Va,hN⟩:∃ W,W=V.alloc (.cells #[.int .u64 0,.int .u64 0,.int .u64 0,.int .u64 0] 67):=⟨_,rfl⟩
  go_simp
  rw [←hN]
  obtain ⟨g3,hg⟩:∃ g,g=V.heap.size:=⟨_,rfl⟩
  rw [←hg]
  have lf:Hid (NumOr Va g3 none):=lH (by rw [hN,hg];exact NumOr.fresh _)
  have fP:=lH (by rw [hN];exact aw.out.alloc aw.out.size _:Below u0.heap.size u0 Va)
  have bL:Hid (u0.heap.size≤g3):=lH (by rw [hg];exact aw.out.size)
  clear hN hg
  clear aw
  refine hK.out _ _ (fP.out) (fun hHeld=>?_)
  clear hK K
  try simp only [aP]
  refine wpAnyH_ready (rs:=[4,11]) (by kernel_rfl) (by simp) ?_
  refine AllReadyH.cons (o:=⟨some 15,.call ⟨ .value (.func 56),#[.tmp 12,.tmp 14],#[67,67]⟩,67,_,_,none⟩) rfl (fun K hK=>?_) ?_
  go_simp
  refine (mulE Va (ja.out.under fP) j.z j.z Hz Hz (by rw [←og.out];exact cL.out)).mono ?_
  rintro e pb ⟨rfl,ab⟩
  have bQ:=lH (fP.out.trans (ab.mono fP.out.size))
  have i9:Hid (NumOr pb g3 none):=lH (NumOr.under lf ab)
  clear ab
  clear fP lf
  go_simp
  refine hK.out _ _ (bQ.out) (fun hHeld=>?_)
  clear hK K
  try simp only [aP]
  refine wpAnyH_ready (rs:=[9,11]) (by kernel_rfl) (by simp) ?_
  refine AllReadyH.cons (o:=⟨some 20,.call ⟨ .value (.func 56),#[.tmp 17,.tmp 19],#[67,67]⟩,67,_,_,none⟩) rfl (fun K hK=>?_) ?_
  go_simp
  refine (mulE pb (ja.out.under bQ) j.y j.y Hy Hy (by rw [←kB.out];exact bc.out)).mono ?_
  rintro e nK ⟨rfl,ab⟩
  have eI:=lH (bQ.out.trans (ab.mono bQ.out.size))
  have jo:Hid (NumOr nK g3 none):=lH (NumOr.under i9 ab)
  clear ab
  clear bQ i9
  go_simp
  refine hK.out _ _ (eI.out) (fun hHeld=>?_)
  clear hK K
  try simp only [aP]
  refine rdy 11 ⟨some 4,.alloc 67,0,_,_,none⟩ rfl (fun K hK=>?_)
  obtain ⟨jG,hN⟩:∃ W,W=nK.alloc (.cells #[.int .u64 0,.int .u64 0,.int .u64 0,.int .u64 0] 67):=⟨_,rfl⟩
  go_simp
  rw [←hN]
  obtain ⟨g4,hg⟩:∃ g,g=nK.heap.size:=⟨_,rfl⟩
  rw [←hg]
  have jw:Hid (NumOr jG g4 none):=lH (by rw [hN,hg];exact NumOr.fresh _)
  have gK:=lH (by rw [hN];exact eI.out.alloc eI.out.size _:Below u0.heap.size u0 jG)
  have bM:Hid (u0.heap.size≤g4):=lH (by rw [hg];exact eI.out.size)
  have aC:Hid (g3≠g4):=lH (by rw [hg];exact Nat.ne_of_lt jo.out.lt)
  have fV:Hid (NumOr jG g3 none):=lH (by rw [hN];exact NumOr.alloc jo _)
  clear hN hg
  have az:=lH (show w.heap.size+1<g3 from (by have h1:=Holds.lt c_.out;have h2:=bL.out;omega))
  have bP:=lH (show w.heap.size+1<g4 from (by have h1:=Holds.lt c_.out;have h2:=bM.out;omega))
  clear eI jo
  refine hK.out _ _ (gK.out) (fun hHeld=>?_)
  clear hK K
  try simp only [aP]
  refine rdy 12 ⟨none,.store 67 (.tmp 3) (.tmp 15),0,_,_,none⟩ rfl (fun K hK=>?_)
  obtain ⟨am,av,au,ao,⟨z0,o0⟩,⟨z1,o1⟩,⟨z2,o2⟩,⟨z3,o3⟩⟩:=NumOr.facts fV.out
  obtain ⟨gB,hN⟩:∃ W,W=((((jG.setCell ⟨g3,0,none⟩ (.int .u64 (kk:Int))).setCell ⟨g3,1,none⟩ (.int .u64 (kc:Int))).setCell ⟨g3,2,none⟩ (.int .u64 (jV:Int))).setCell ⟨g3,3,none⟩ (.int .u64 (j4:Int))):=⟨_,rfl⟩
  go_simp
  rw [←hN]
  have iU:Hid (NumOr gB g3 (some (en zz))):=lH (by rw [hN];exact NumOr.set fV cL)
  have er:=lH (by rw [hN];exact below4 gK bL _ _ _ _:Below u0.heap.size u0 gB)
  have dG:Hid (NumOr gB g4 none):=lH (by rw [hN];exact NumOr.aside4 jw aC.out.symm _ _ _ _)
  clear hN z0 o0 z1 o1 z2 o2 z3 o3 am av au ao
  clear gK fV jw
  refine hK.out _ _ (er.out) (fun hHeld=>?_)
  clear hK K
  try simp only [aP]
  refine rdy 13 ⟨none,.store 67 (.tmp 4) (.tmp 20),0,_,_,none⟩ rfl (fun K hK=>?_)
  obtain ⟨am,av,au,ao,⟨z0,o0⟩,⟨z1,o1⟩,⟨z2,o2⟩,⟨z3,o3⟩⟩:=NumOr.facts dG.out
  obtain ⟨gv,hN⟩:∃ W,W=((((gB.setCell ⟨g4,0,none⟩ (.int .u64 (jX:Int))).setCell ⟨g4,1,none⟩ (.int .u64 (jY:Int))).setCell ⟨g4,2,none⟩ (.int .u64 (jW:Int))).setCell ⟨g4,3,none⟩ (.int .u64 (ke:Int))):=⟨_,rfl⟩
  go_simp
  rw [←hN]
  have kg:Hid (NumOr gv g4 (some (en yy))):=lH (by rw [hN];exact NumOr.set dG bc)
  have fb:=lH (by rw [hN];exact below4 er bM _ _ _ _:Below u0.heap.size u0 gv)
  have jT:Hid (NumOr gv g3 (some (en zz))):=lH (by rw [hN];exact NumOr.aside4 iU aC _ _ _ _)
  clear hN z0 o0 z1 o1 z2 o2 z3 o3 am av au ao
  clear er iU dG
  refine hK.out _ _ (fb.out) (fun hHeld=>?_)
  clear hK K
  try simp only [aP]
  refine dn ?_
  rw [ju.out]
  exact ⟨rfl,g3,g4,rfl,rfl,HF _ fb,jT,kg,az,bP⟩
  refine AllReadyH.cons (o:=⟨some 4,.alloc 67,0,_,_,none⟩) rfl (fun K hK=>?_) AllReadyH.nil
  obtain ⟨mr,hN⟩:∃ W,W=pb.alloc (.cells #[.int .u64 0,.int .u64 0,.int .u64 0,.int .u64 0] 67):=⟨_,rfl⟩
  go_simp
  rw [←hN]
  obtain ⟨g4,hg⟩:∃ g,g=pb.heap.size:=⟨_,rfl⟩
  rw [←hg]
  have l5:Hid (NumOr mr g4 none):=lH (by rw [hN,hg];exact NumOr.fresh _)
  have dF:=lH (by rw [hN];exact bQ.out.alloc bQ.out.size _:Below u0.heap.size u0 mr)
  have bM:Hid (u0.heap.size≤g4):=lH (by rw [hg];exact bQ.out.size)
  have aC:Hid (g3≠g4):=lH (by rw [hg];exact Nat.ne_of_lt i9.out.lt)
  have kI:Hid (NumOr mr g3 none):=lH (by rw [hN];exact NumOr.alloc i9 _)
  clear hN hg
  have az:=lH (show w.heap.size+1<g3 from (by have h1:=Holds.lt c_.out;have h2:=bL.out;omega))
  have bP:=lH (show w.heap.size+1<g4 from (by have h1:=Holds.lt c_.out;have h2:=bM.out;omega))
  clear bQ i9
  refine hK.out _ _ (dF.out) (fun hHeld=>?_)
  clear hK K
  try simp only [aP]
  refine rdy 9 ⟨some 20,.call ⟨ .value (.func 56),#[.tmp 17,.tmp 19],#[67,67]⟩,67,_,_,none⟩ rfl (fun K hK=>?_)
  go_simp
  refine (mulE mr (ja.out.under dF) j.y j.y Hy Hy (by rw [←kB.out];exact bc.out)).mono ?_
  rintro e kU ⟨rfl,ab⟩
  have gN:=lH (dF.out.trans (ab.mono dF.out.size))
  have gg:Hid (NumOr kU g3 none):=lH (NumOr.under kI ab)
  have jH:Hid (NumOr kU g4 none):=lH (NumOr.under l5 ab)
  clear ab
  clear dF kI l5
  go_simp
  refine hK.out _ _ (gN.out) (fun hHeld=>?_)
  clear hK K
  try simp only [aP]
  refine rdy 12 ⟨none,.store 67 (.tmp 3) (.tmp 15),0,_,_,none⟩ rfl (fun K hK=>?_)
  obtain ⟨am,av,au,ao,⟨z0,o0⟩,⟨z1,o1⟩,⟨z2,o2⟩,⟨z3,o3⟩⟩:=NumOr.facts gg.out
  obtain ⟨fG,hN⟩:∃ W,W=((((kU.setCell ⟨g3,0,none⟩ (.int .u64 (kk:Int))).setCell ⟨g3,1,none⟩ (.int .u64 (kc:Int))).setCell ⟨g3,2,none⟩ (.int .u64 (jV:Int))).setCell ⟨g3,3,none⟩ (.int .u64 (j4:Int))):=⟨_,rfl⟩
  go_simp
  rw [←hN]
  have iB:Hid (NumOr fG g3 (some (en zz))):=lH (by rw [hN];exact NumOr.set gg cL)
  have ds:=lH (by rw [hN];exact below4 gN bL _ _ _ _:Below u0.heap.size u0 fG)
  have eF:Hid (NumOr fG g4 none):=lH (by rw [hN];exact NumOr.aside4 jH aC.out.symm _ _ _ _)
  clear hN z0 o0 z1 o1 z2 o2 z3 o3 am av au ao
  clear gN gg jH
  refine hK.out _ _ (ds.out) (fun hHeld=>?_)
  clear hK K
  try simp only [aP]
  refine rdy 13 ⟨none,.store 67 (.tmp 4) (.tmp 20),0,_,_,none⟩ rfl (fun K hK=>?_)
  obtain ⟨am,av,au,ao,⟨z0,o0⟩,⟨z1,o1⟩,⟨z2,o2⟩,⟨z3,o3⟩⟩:=NumOr.facts eF.out
  obtain ⟨gt,hN⟩:∃ W,W=((((fG.setCell ⟨g4,0,none⟩ (.int .u64 (jX:Int))).setCell ⟨g4,1,none⟩ (.int .u64 (jY:Int))).setCell ⟨g4,2,none⟩ (.int .u64 (jW:Int))).setCell ⟨g4,3,none⟩ (.int .u64 (ke:Int))):=⟨_,rfl⟩
  go_simp
  rw [←hN]
  have kh:Hid (NumOr gt g4 (some (en yy))):=lH (by rw [hN];exact NumOr.set eF bc)
  have fj:=lH (by rw [hN];exact below4 ds bM _ _ _ _:Below u0.heap.size u0 gt)
  have ki:Hid (NumOr gt g3 (some (en zz))):=lH (by rw [hN];exact NumOr.aside4 iB aC _ _ _ _)
  clear hN z0 o0 z1 o1 z2 o2 z3 o3 am av au ao
  clear ds iB eF
  refine hK.out _ _ (fj.out) (fun hHeld=>?_)
  clear hK K
  try simp only [aP]
  refine dn ?_
  rw [ju.out]
  exact ⟨rfl,g3,g4,rfl,rfl,HF _ fj,ki,kh,az,bP⟩
  refine AllReadyH.cons (o:=⟨some 4,.alloc 67,0,_,_,none⟩) rfl (fun K hK=>?_) AllReadyH.nil
  obtain ⟨pe,hN⟩:∃ W,W=Va.alloc (.cells #[.int .u64 0,.int .u64 0,.int .u64 0,.int .u64 0] 67):=⟨_,rfl⟩
  go_simp
  rw [←hN]
  obtain ⟨g4,hg⟩:∃ g,g=Va.heap.size:=⟨_,rfl⟩
  rw [←hg]
  have ni:Hid (NumOr pe g4 none):=lH (by rw [hN,hg];exact NumOr.fresh _)
  have iY:=lH (by rw [hN];exact fP.out.alloc fP.out.size _:Below u0.heap.size u0 pe)
  have bM:Hid (u0.heap.size≤g4):=lH (by rw [hg];exact fP.out.size)
  have aC:Hid (g3≠g4):=lH (by rw [hg];exact Nat.ne_of_lt lf.out.lt)
  have ng:Hid (NumOr pe g3 none):=lH (by rw [hN];exact NumOr.alloc lf _)
  clear hN hg
  have az:=lH (show w.heap.size+1<g3 from (by have h1:=Holds.lt c_.out;have h2:=bL.out;omega))
  have bP:=lH (show w.heap.size+1<g4 from (by have h1:=Holds.lt c_.out;have h2:=bM.out;omega))
  clear fP lf
  refine hK.out _ _ (iY.out) (fun hHeld=>?_)
  clear hK K
  try simp only [aP]
  refine rdy 4 ⟨some 15,.call ⟨ .value (.func 56),#[.tmp 12,.tmp 14],#[67,67]⟩,67,_,_,none⟩ rfl (fun K hK=>?_)
  go_simp
  refine (mulE pe (ja.out.under iY) j.z j.z Hz Hz (by rw [←og.out];exact cL.out)).mono ?_
  rintro e nF ⟨rfl,ab⟩
  have eH:=lH (iY.out.trans (ab.mono iY.out.size))
  have kw:Hid (NumOr nF g3 none):=lH (NumOr.under ng ab)
  have kQ:Hid (NumOr nF g4 none):=lH (NumOr.under ni ab)
  clear ab
  clear iY ng ni
  go_simp
  refine hK.out _ _ (eH.out) (fun hHeld=>?_)
  clear hK K
  try simp only [aP]
  refine rdy 9 ⟨some 20,.call ⟨ .value (.func 56),#[.tmp 17,.tmp 19],#[67,67]⟩,67,_,_,none⟩ rfl (fun K hK=>?_)
  go_simp
  refine (mulE nF (ja.out.under eH) j.y j.y Hy Hy (by rw [←kB.out];exact bc.out)).mono ?_
  rintro e kA ⟨rfl,ab⟩
  have gR:=lH (eH.out.trans (ab.mono eH.out.size))
  have gZ:Hid (NumOr kA g3 none):=lH (NumOr.under kw ab)
  have jx:Hid (NumOr kA g4 none):=lH (NumOr.under kQ ab)
  clear ab
  clear eH kw kQ
  go_simp
  refine hK.out _ _ (gR.out) (fun hHeld=>?_)
  clear hK K
  try simp only [aP]
  refine rdy 12 ⟨none,.store 67 (.tmp 3) (.tmp 15),0,_,_,none⟩ rfl (fun K hK=>?_)
  obtain ⟨am,av,au,ao,⟨z0,o0⟩,⟨z1,o1⟩,⟨z2,o2⟩,⟨z3,o3⟩⟩:=NumOr.facts gZ.out
  obtain ⟨fD,hN⟩:∃ W,W=((((kA.setCell ⟨g3,0,none⟩ (.int .u64 (kk:Int))).setCell ⟨g3,1,none⟩ (.int .u64 (kc:Int))).setCell ⟨g3,2,none⟩ (.int .u64 (jV:Int))).setCell ⟨g3,3,none⟩ (.int .u64 (j4:Int))):=⟨_,rfl⟩
  go_simp
  rw [←hN]
  have iZ:Hid (NumOr fD g3 (some (en zz))):=lH (by rw [hN];exact NumOr.set gZ cL)
  have eL:=lH (by rw [hN];exact below4 gR bL _ _ _ _:Below u0.heap.size u0 fD)
  have ev:Hid (NumOr fD g4 none):=lH (by rw [hN];exact NumOr.aside4 jx aC.out.symm _ _ _ _)
  clear hN z0 o0 z1 o1 z2 o2 z3 o3 am av au ao
  clear gR gZ jx
  refine hK.out _ _ (eL.out) (fun hHeld=>?_)
  clear hK K
  try simp only [aP]
  refine rdy 13 ⟨none,.store 67 (.tmp 4) (.tmp 20),0,_,_,none⟩ rfl (fun K hK=>?_)
  obtain ⟨am,av,au,ao,⟨z0,o0⟩,⟨z1,o1⟩,⟨z2,o2⟩,⟨z3,o3⟩⟩:=NumOr.facts ev.out
  obtain ⟨fR,hN⟩:∃ W,W=((((fD.setCell ⟨g4,0,none⟩ (.int .u64 (jX:Int))).setCell ⟨g4,1,none⟩ (.int .u64 (jY:Int))).setCell ⟨g4,2,none⟩ (.int .u64 (jW:Int))).setCell ⟨g4,3,none⟩ (.int .u64 (ke:Int))):=⟨_,rfl⟩
  go_simp
  rw [←hN]
  have kf:Hid (NumOr fR g4 (some (en yy))):=lH (by rw [hN];exact NumOr.set ev bc)
  have fl:=lH (by rw [hN];exact below4 eL bM _ _ _ _:Below u0.heap.size u0 fR)
  have j6:Hid (NumOr fR g3 (some (en zz))):=lH (by rw [hN];exact NumOr.aside4 iZ aC _ _ _ _)
  clear hN z0 o0 z1 o1 z2 o2 z3 o3 am av au ao
  clear eL iZ ev
  refine hK.out _ _ (fl.out) (fun hHeld=>?_)
  clear hK K
  try simp only [aP]
  refine dn ?_
  rw [ju.out]
  exact ⟨rfl,g3,g4,rfl,rfl,HF _ fl,j6,kf,az,bP⟩
  refine AllReadyH.cons (o:=⟨some 4,.alloc 67,0,_,_,none⟩) rfl (fun K hK=>?_) AllReadyH.nil
  obtain ⟨Vb,hN⟩:∃ W,W=V.alloc (.cells #[.int .u64 0,.int .u64 0,.int .u64 0,.int .u64 0] 67):=⟨_,rfl⟩
  go_simp
  rw [←hN]
  obtain ⟨g4,hg⟩:∃ g,g=V.heap.size:=⟨_,rfl⟩
  rw [←hg]
  have l8:Hid (NumOr Vb g4 none):=lH (by rw [hN,hg];exact NumOr.fresh _)
  have gE:=lH (by rw [hN];exact aw.out.alloc aw.out.size _:Below u0.heap.size u0 Vb)
  have bM:Hid (u0.heap.size≤g4):=lH (by rw [hg];exact aw.out.size)
  clear hN hg
  clear aw
  refine hK.out _ _ (gE.out) (fun hHeld=>?_)
  clear hK K
  try simp only [aP]
  refine wpAnyH_ready (rs:=[4,10]) (by kernel_rfl) (by simp) ?_
  refine AllReadyH.cons (o:=⟨some 15,.call ⟨ .value (.func 56),#[.tmp 12,.tmp 14],#[67,67]⟩,67,_,_,none⟩) rfl (fun K hK=>?_) ?_
  go_simp
  refine (mulE Vb (ja.out.under gE) j.z j.z Hz Hz (by rw [←og.out];exact cL.out)).mono ?_
  rintro e pk ⟨rfl,ab⟩
  have bZ:=lH (gE.out.trans (ab.mono gE.out.size))
  have iO:Hid (NumOr pk g4 none):=lH (NumOr.under l8 ab)
  clear ab
  clear gE l8
  go_simp
  refine hK.out _ _ (bZ.out) (fun hHeld=>?_)
  clear hK K
  try simp only [aP]
  refine wpAnyH_ready (rs:=[9,10]) (by kernel_rfl) (by simp) ?_
  refine AllReadyH.cons (o:=⟨some 20,.call ⟨ .value (.func 56),#[.tmp 17,.tmp 19],#[67,67]⟩,67,_,_,none⟩) rfl (fun K hK=>?_) ?_
  go_simp
  refine (mulE pk (ja.out.under bZ) j.y j.y Hy Hy (by rw [←kB.out];exact bc.out)).mono ?_
  rintro e nB ⟨rfl,ab⟩
  have ef:=lH (bZ.out.trans (ab.mono bZ.out.size))
  have jn:Hid (NumOr nB g4 none):=lH (NumOr.under iO ab)
  clear ab
  clear bZ iO
  go_simp
  refine hK.out _ _ (ef.out) (fun hHeld=>?_)
  clear hK K
  try simp only [aP]
  refine rdy 10 ⟨some 3,.alloc 67,0,_,_,none⟩ rfl (fun K hK=>?_)
  obtain ⟨jz,hN⟩:∃ W,W=nB.alloc (.cells #[.int .u64 0,.int .u64 0,.int .u64 0,.int .u64 0] 67):=⟨_,rfl⟩
  go_simp
  rw [←hN]
  obtain ⟨g3,hg⟩:∃ g,g=nB.heap.size:=⟨_,rfl⟩
  rw [←hg]
  have gD:Hid (NumOr jz g3 none):=lH (by rw [hN,hg];exact NumOr.fresh _)
  have fL:=lH (by rw [hN];exact ef.out.alloc ef.out.size _:Below u0.heap.size u0 jz)
  have bL:Hid (u0.heap.size≤g3):=lH (by rw [hg];exact ef.out.size)
  have aB:Hid (g4≠g3):=lH (by rw [hg];exact Nat.ne_of_lt jn.out.lt)
  have jM:Hid (NumOr jz g4 none):=lH (by rw [hN];exact NumOr.alloc jn _)
  clear hN hg
  have az:=lH (show w.heap.size+1<g3 from (by have h1:=Holds.lt c_.out;have h2:=bL.out;omega))
  have bP:=lH (show w.heap.size+1<g4 from (by have h1:=Holds.lt c_.out;have h2:=bM.out;omega))
  clear ef jn
  refine hK.out _ _ (fL.out) (fun hHeld=>?_)
  clear hK K
  try simp only [aP]
  refine rdy 12 ⟨none,.store 67 (.tmp 3) (.tmp 15),0,_,_,none⟩ rfl (fun K hK=>?_)
  obtain ⟨am,av,au,ao,⟨z0,o0⟩,⟨z1,o1⟩,⟨z2,o2⟩,⟨z3,o3⟩⟩:=NumOr.facts gD.out
  obtain ⟨gS,hN⟩:∃ W,W=((((jz.setCell ⟨g3,0,none⟩ (.int .u64 (kk:Int))).setCell ⟨g3,1,none⟩ (.int .u64 (kc:Int))).setCell ⟨g3,2,none⟩ (.int .u64 (jV:Int))).setCell ⟨g3,3,none⟩ (.int .u64 (j4:Int))):=⟨_,rfl⟩
  go_simp
  rw [←hN]
  have io:Hid (NumOr gS g3 (some (en zz))):=lH (by rw [hN];exact NumOr.set gD cL)
  have dv:=lH (by rw [hN];exact below4 fL bL _ _ _ _:Below u0.heap.size u0 gS)
  have eG:Hid (NumOr gS g4 none):=lH (by rw [hN];exact NumOr.aside4 jM aB _ _ _ _)
  clear hN z0 o0 z1 o1 z2 o2 z3 o3 am av au ao
  clear fL jM gD
  refine hK.out _ _ (dv.out) (fun hHeld=>?_)
  clear hK K
  try simp only [aP]
  refine rdy 13 ⟨none,.store 67 (.tmp 4) (.tmp 20),0,_,_,none⟩ rfl (fun K hK=>?_)
  obtain ⟨am,av,au,ao,⟨z0,o0⟩,⟨z1,o1⟩,⟨z2,o2⟩,⟨z3,o3⟩⟩:=NumOr.facts eG.out
  obtain ⟨gF,hN⟩:∃ W,W=((((gS.setCell ⟨g4,0,none⟩ (.int .u64 (jX:Int))).setCell ⟨g4,1,none⟩ (.int .u64 (jY:Int))).setCell ⟨g4,2,none⟩ (.int .u64 (jW:Int))).setCell ⟨g4,3,none⟩ (.int .u64 (ke:Int))):=⟨_,rfl⟩
  go_simp
  rw [←hN]
  have jR:Hid (NumOr gF g4 (some (en yy))):=lH (by rw [hN];exact NumOr.set eG bc)
  have fu:=lH (by rw [hN];exact below4 dv bM _ _ _ _:Below u0.heap.size u0 gF)
  have kp:Hid (NumOr gF g3 (some (en zz))):=lH (by rw [hN];exact NumOr.aside4 io aB.out.symm _ _ _ _)
  clear hN z0 o0 z1 o1 z2 o2 z3 o3 am av au ao
  clear dv eG io
  refine hK.out _ _ (fu.out) (fun hHeld=>?_)
  clear hK K
  try simp only [aP]
  refine dn ?_
  rw [ju.out]
  exact ⟨rfl,g3,g4,rfl,rfl,HF _ fu,kp,jR,az,bP⟩
  refine AllReadyH.cons (o:=⟨some 3,.alloc 67,0,_,_,none⟩) rfl (fun K hK=>?_) AllReadyH.nil
  obtain ⟨mz,hN⟩:∃ W,W=pk.alloc (.cells #[.int .u64 0,.int .u64 0,.int .u64 0,.int .u64 0] 67):=⟨_,rfl⟩
  go_simp
  rw [←hN]
  obtain ⟨g3,hg⟩:∃ g,g=pk.heap.size:=⟨_,rfl⟩
  rw [←hg]
  have kE:Hid (NumOr mz g3 none):=lH (by rw [hN,hg];exact NumOr.fresh _)
  have dB:=lH (by rw [hN];exact bZ.out.alloc bZ.out.size _:Below u0.heap.size u0 mz)
  have bL:Hid (u0.heap.size≤g3):=lH (by rw [hg];exact bZ.out.size)
  have aB:Hid (g4≠g3):=lH (by rw [hg];exact Nat.ne_of_lt iO.out.lt)
  have lq:Hid (NumOr mz g4 none):=lH (by rw [hN];exact NumOr.alloc iO _)
  clear hN hg
  have az:=lH (show w.heap.size+1<g3 from (by have h1:=Holds.lt c_.out;have h2:=bL.out;omega))
  have bP:=lH (show w.heap.size+1<g4 from (by have h1:=Holds.lt c_.out;have h2:=bM.out;omega))
  clear bZ iO
  refine hK.out _ _ (dB.out) (fun hHeld=>?_)
  clear hK K
  try simp only [aP]
  refine rdy 9 ⟨some 20,.call ⟨ .value (.func 56),#[.tmp 17,.tmp 19],#[67,67]⟩,67,_,_,none⟩ rfl (fun K hK=>?_)
  go_simp
  refine (mulE mz (ja.out.under dB) j.y j.y Hy Hy (by rw [←kB.out];exact bc.out)).mono ?_
  rintro e lI ⟨rfl,ab⟩
  have hI:=lH (dB.out.trans (ab.mono dB.out.size))
  have jE:Hid (NumOr lI g4 none):=lH (NumOr.under lq ab)
  have fF:Hid (NumOr lI g3 none):=lH (NumOr.under kE ab)
  clear ab
  clear dB lq kE
  go_simp
  refine hK.out _ _ (hI.out) (fun hHeld=>?_)
  clear hK K
  try simp only [aP]
  refine rdy 12 ⟨none,.store 67 (.tmp 3) (.tmp 15),0,_,_,none⟩ rfl (fun K hK=>?_)
  obtain ⟨am,av,au,ao,⟨z0,o0⟩,⟨z1,o1⟩,⟨z2,o2⟩,⟨z3,o3⟩⟩:=NumOr.facts fF.out
  obtain ⟨gA,hN⟩:∃ W,W=((((lI.setCell ⟨g3,0,none⟩ (.int .u64 (kk:Int))).setCell ⟨g3,1,none⟩ (.int .u64 (kc:Int))).setCell ⟨g3,2,none⟩ (.int .u64 (jV:Int))).setCell ⟨g3,3,none⟩ (.int .u64 (j4:Int))):=⟨_,rfl⟩
  go_simp
  rw [←hN]
  have iP:Hid (NumOr gA g3 (some (en zz))):=lH (by rw [hN];exact NumOr.set fF cL)
  have ej:=lH (by rw [hN];exact below4 hI bL _ _ _ _:Below u0.heap.size u0 gA)
  have d_:Hid (NumOr gA g4 none):=lH (by rw [hN];exact NumOr.aside4 jE aB _ _ _ _)
  clear hN z0 o0 z1 o1 z2 o2 z3 o3 am av au ao
  clear hI jE fF
  refine hK.out _ _ (ej.out) (fun hHeld=>?_)
  clear hK K
  try simp only [aP]
  refine rdy 13 ⟨none,.store 67 (.tmp 4) (.tmp 20),0,_,_,none⟩ rfl (fun K hK=>?_)
  obtain ⟨am,av,au,ao,⟨z0,o0⟩,⟨z1,o1⟩,⟨z2,o2⟩,⟨z3,o3⟩⟩:=NumOr.facts d_.out
  obtain ⟨hC,hN⟩:∃ W,W=((((gA.setCell ⟨g4,0,none⟩ (.int .u64 (jX:Int))).setCell ⟨g4,1,none⟩ (.int .u64 (jY:Int))).setCell ⟨g4,2,none⟩ (.int .u64 (jW:Int))).setCell ⟨g4,3,none⟩ (.int .u64 (ke:Int))):=⟨_,rfl⟩
  go_simp
  rw [←hN]
  have kr:Hid (NumOr hC g4 (some (en yy))):=lH (by rw [hN];exact NumOr.set d_ bc)
  have fk:=lH (by rw [hN];exact below4 ej bM _ _ _ _:Below u0.heap.size u0 hC)
  have j5:Hid (NumOr hC g3 (some (en zz))):=lH (by rw [hN];exact NumOr.aside4 iP aB.out.symm _ _ _ _)
  clear hN z0 o0 z1 o1 z2 o2 z3 o3 am av au ao
  clear ej d_ iP
  refine hK.out _ _ (fk.out) (fun hHeld=>?_)
  clear hK K
  try simp only [aP]
  refine dn ?_
  rw [ju.out]
  exact ⟨rfl,g3,g4,rfl,rfl,HF _ fk,j5,kr,az,bP⟩
  refine AllReadyH.cons (o:=⟨some 3,.alloc 67,0,_,_,none⟩) rfl (fun K hK=>?_) AllReadyH.nil
  obtain ⟨pr,hN⟩:∃ W,W=Vb.alloc (.cells #[.int .u64 0,.int .u64 0,.int .u64 0,.int .u64 0] 67):=⟨_,rfl⟩
  go_simp
  rw [←hN]
  obtain ⟨g3,hg⟩:∃ g,g=Vb.heap.size:=⟨_,rfl⟩
  rw [←hg]
  have nr:Hid (NumOr pr g3 none):=lH (by rw [hN,hg];exact NumOr.fresh _)
  have ic:=lH (by rw [hN];exact gE.out.alloc gE.out.size _:Below u0.heap.size u0 pr)
  have bL:Hid (u0.heap.size≤g3):=lH (by rw [hg];exact gE.out.size)
  have aB:Hid (g4≠g3):=lH (by rw [hg];exact Nat.ne_of_lt l8.out.lt)
  have mA:Hid (NumOr pr g4 none):=lH (by rw [hN];exact NumOr.alloc l8 _)
  clear hN hg
  have az:=lH (show w.heap.size+1<g3 from (by have h1:=Holds.lt c_.out;have h2:=bL.out;omega))
  have bP:=lH (show w.heap.size+1<g4 from (by have h1:=Holds.lt c_.out;have h2:=bM.out;omega))
  clear gE l8
  refine hK.out _ _ (ic.out) (fun hHeld=>?_)
  clear hK K
  try simp only [aP]
  refine rdy 4 ⟨some 15,.call ⟨ .value (.func 56),#[.tmp 12,.tmp 14],#[67,67]⟩,67,_,_,none⟩ rfl (fun K hK=>?_)
  go_simp
  refine (mulE pr (ja.out.under ic) j.z j.z Hz Hz (by rw [←og.out];exact cL.out)).mono ?_
  rintro e nC ⟨rfl,ab⟩
  have eB:=lH (ic.out.trans (ab.mono ic.out.size))
  have kS:Hid (NumOr nC g4 none):=lH (NumOr.under mA ab)
  have kV:Hid (NumOr nC g3 none):=lH (NumOr.under nr ab)
  clear ab
  clear ic mA nr
  go_simp
  refine hK.out _ _ (eB.out) (fun hHeld=>?_)
  clear hK K
  try simp only [aP]
  refine rdy 9 ⟨some 20,.call ⟨ .value (.func 56),#[.tmp 17,.tmp 19],#[67,67]⟩,67,_,_,none⟩ rfl (fun K hK=>?_)
  go_simp
  refine (mulE nC (ja.out.under eB) j.y j.y Hy Hy (by rw [←kB.out];exact bc.out)).mono ?_
  rintro e lW ⟨rfl,ab⟩
  have gm:=lH (eB.out.trans (ab.mono eB.out.size))
  have jA:Hid (NumOr lW g4 none):=lH (NumOr.under kS ab)
  have gu:Hid (NumOr lW g3 none):=lH (NumOr.under kV ab)
  clear ab
  clear eB kS kV
  go_simp
  refine hK.out _ _ (gm.out) (fun hHeld=>?_)
  clear hK K
  try simp only [aP]
  refine rdy 12 ⟨none,.store 67 (.tmp 3) (.tmp 15),0,_,_,none⟩ rfl (fun K hK=>?_)
  obtain ⟨am,av,au,ao,⟨z0,o0⟩,⟨z1,o1⟩,⟨z2,o2⟩,⟨z3,o3⟩⟩:=NumOr.facts gu.out
  obtain ⟨gM,hN⟩:∃ W,W=((((lW.setCell ⟨g3,0,none⟩ (.int .u64 (kk:Int))).setCell ⟨g3,1,none⟩ (.int .u64 (kc:Int))).setCell ⟨g3,2,none⟩ (.int .u64 (jV:Int))).setCell ⟨g3,3,none⟩ (.int .u64 (j4:Int))):=⟨_,rfl⟩
  go_simp
  rw [←hN]
  have iL:Hid (NumOr gM g3 (some (en zz))):=lH (by rw [hN];exact NumOr.set gu cL)
  have eA:=lH (by rw [hN];exact below4 gm bL _ _ _ _:Below u0.heap.size u0 gM)
  have eK:Hid (NumOr gM g4 none):=lH (by rw [hN];exact NumOr.aside4 jA aB _ _ _ _)
  clear hN z0 o0 z1 o1 z2 o2 z3 o3 am av au ao
  clear gm jA gu
  refine hK.out _ _ (eA.out) (fun hHeld=>?_)
  clear hK K
  try simp only [aP]
  refine rdy 13 ⟨none,.store 67 (.tmp 4) (.tmp 20),0,_,_,none⟩ rfl (fun K hK=>?_)
  obtain ⟨am,av,au,ao,⟨z0,o0⟩,⟨z1,o1⟩,⟨z2,o2⟩,⟨z3,o3⟩⟩:=NumOr.facts eK.out
  obtain ⟨gQ,hN⟩:∃ W,W=((((gM.setCell ⟨g4,0,none⟩ (.int .u64 (jX:Int))).setCell ⟨g4,1,none⟩ (.int .u64 (jY:Int))).setCell ⟨g4,2,none⟩ (.int .u64 (jW:Int))).setCell ⟨g4,3,none⟩ (.int .u64 (ke:Int))):=⟨_,rfl⟩
  go_simp
  rw [←hN]
  have jU:Hid (NumOr gQ g4 (some (en yy))):=lH (by rw [hN];exact NumOr.set eK bc)
  have fc:=lH (by rw [hN];exact below4 eA bM _ _ _ _:Below u0.heap.size u0 gQ)
  have jZ:Hid (NumOr gQ g3 (some (en zz))):=lH (by rw [hN];exact NumOr.aside4 iL aB.out.symm _ _ _ _)
  clear hN z0 o0 z1 o1 z2 o2 z3 o3 am av au ao
  clear eA eK iL
  refine hK.out _ _ (fc.out) (fun hHeld=>?_)
  clear hK K
  try simp only [aP]
  refine dn ?_
  rw [ju.out]
  exact ⟨rfl,g3,g4,rfl,rfl,HF _ fc,jZ,jU,az,bP⟩
 rintro e a u1 hq
 rw [ju.out] at hq
 obtain ⟨rfl,g3,g4,bN,ee,dC⟩:=hq
 have mi:=lH dC
 clear dC ju oc
 obtain ⟨tm,df⟩:=a
 dsimp only at bN ee
 subst ee
 obtain ⟨U,hU⟩:∃ U:Nat→Value,∀ i,tm.getD i undef=U i:=⟨_,fun _=>rfl⟩
 simp only [tG,hU] at bN
 clear hU
 subst bN
 go_step
 go_step
 (repeat (first | (apply wp_seq_k;intro _ _) | apply wp_block))
 obtain ⟨sH,pM⟩:∃ Q:Exit→Act→World→Prop,Hid (Q=fun e a W=>e = .normal∧∃ (g5:Nat),a.tmps=#[tG a 0,.pointer (some ⟨w.heap.size,0,none⟩),.pointer (some ⟨w.heap.size+1,0,none⟩),.pointer (some ⟨g3,0,none⟩),.pointer (some ⟨g4,0,none⟩),.pointer (some ⟨g5,0,none⟩),tG a 6,tG a 7,tG a 8,tG a 9,tG a 10,tG a 11,tG a 12,tG a 13,tG a 14,tG a 15,tG a 16,tG a 17,tG a 18,tG a 19,tG a 20,tG a 21,tG a 22,tG a 23,tG a 24,tG a 25,tG a 26,tG a 27,tG a 28,tG a 29,tG a 30,tG a 31,tG a 32,tG a 33,tG a 34,tG a 35,tG a 36,tG a 37,tG a 38,tG a 39,tG a 40,tG a 41,tG a 42,tG a 43,tG a 44,tG a 45,tG a 46,tG a 47,tG a 48,tG a 49,tG a 50,tG a 51,tG a 52,tG a 53,tG a 54,tG a 55,tG a 56,tG a 57,tG a 58,tG a 59,tG a 60,tG a 61,tG a 62,tG a 63,tG a 64,tG a 65,tG a 66,tG a 67,tG a 68,tG a 69,tG a 70,tG a 71,tG a 72,tG a 73,tG a 74]∧a.defers=[]∧(((Holds W w.heap.size 69 #[.int .u64 (x0:Int),.int .u64 (x1:Int),.int .u64 (x2:Int),.int .u64 (x3:Int),.int .u64 (y0:Int),.int .u64 (y1:Int),.int .u64 (y2:Int),.int .u64 (y3:Int),.int .u64 (z0:Int),.int .u64 (z1:Int),.int .u64 (z2:Int),.int .u64 (z3:Int)])∧(Holds W (w.heap.size+1) 69 #[.int .u64 0,.int .u64 0,.int .u64 0,.int .u64 0,.int .u64 0,.int .u64 0,.int .u64 0,.int .u64 0,.int .u64 0,.int .u64 0,.int .u64 0,.int .u64 0])∧(Below w.heap.size w W)∧(CMet W))∧(NumOr W g3 (some (en zz)))∧(NumOr W g4 (some (en yy)))∧(w.heap.size+1<g3)∧(w.heap.size+1<g4))∧(NumOr W g5 (some (en fm)))∧(w.heap.size+1<g5)):=⟨_,lH rfl⟩
 refine Code.wp_mono (Q:=sH) ?_ ?_
 rotate_left 1
 ·have oa:=lH (mi.out.1.1)
  have ql:=lH (mi.out.1.2.1)
  have qW:=lH (mi.out.1.2.2.1)
  have qZ:=lH (mi.out.1.2.2.2)
  have pN:=lH (mi.out.2.1)
  have oW:=lH (mi.out.2.2.1)
  have aV:=lH (mi.out.2.2.2.1)
  have aW:=lH (mi.out.2.2.2.2)
  have Hx:=lH (FV.out.2.1)
  have pB:=lH (FV.out.2.2.2.2.2.2.1)
  have bc:=lH (FV.out.2.2.2.2.2.2.2.2.2.2.2.2.2.2.2.2.2.2.2.2.2.2.2.2.2.2.2.2.2.1)
  have lQ:=lH (FV.out.2.2.2.2.2.2.2.2.2.2.2.2.2.2.2.2.2.2.2.2.2.2.2.2.2.2.2.2.2.2.1)
  clear mi FV
  have k0:=oa.out.cell 0
  have k1:=oa.out.cell 1
  have k2:=oa.out.cell 2
  have k3:=oa.out.cell 3
  obtain ⟨td,tc,rF,tr⟩:=oW.out.cells bc.out
  go_wp2_with fail
  have bW:Below u1.heap.size u1 u1:=Below.refl _ _
  refine (mulE u1 (qZ.out.under bW) j.x yy Hx bc (by rw [←pB.out];exact lQ.out)).mono ?_
  rintro e mx ⟨rfl,ab⟩
  have dr:=bW.trans (ab.mono bW.size)
  clear ab bW
  clear k0 k1 k2 k3 td tc rF tr
  go_wp2_with fail
  have dl:Below u1.heap.size u1 (mx.alloc (.cells #[.int .u64 (nN:Int),.int .u64 (nM:Int),.int .u64 (nW:Int),.int .u64 (nV:Int)] 67)):=dr.alloc dr.size _
  have kM:NumOr (mx.alloc (.cells #[.int .u64 (nN:Int),.int .u64 (nM:Int),.int .u64 (nW:Int),.int .u64 (nV:Int)] 67)) mx.heap.size (some (en fm)):=by
   show Holds _ _ _ (nums .u64 (nm (en fm)))
   rw [nv_of lQ.out]
   exact Holds.fresh _ _ _
  rw [pM.out]
  exact ⟨rfl,mx.heap.size,rfl,rfl,⟨⟨oa.out.under dl (Holds.lt oa),ql.out.under dl (Holds.lt ql),qW.out.trans (dl.mono qW.out.size),qZ.out.under dl⟩,NumOr.under pN dl,NumOr.under oW dl,aV,aW⟩,kM,(by have h1:=Holds.lt ql.out;have h2:=dr.size;omega)⟩
 rintro e a u2 hq
 rw [pM.out] at hq
 obtain ⟨rfl,g5,bN,ee,dC⟩:=hq
 have kt:=lH dC
 clear dC pM mi
 obtain ⟨tm,df⟩:=a
 dsimp only at bN ee
 subst ee
 obtain ⟨U,hU⟩:∃ U:Nat→Value,∀ i,tm.getD i undef=U i:=⟨_,fun _=>rfl⟩
 simp only [tG,hU] at bN
 clear hU
 subst bN
 go_step
 go_step
 (repeat (first | (apply wp_seq_k;intro _ _) | apply wp_block))
 obtain ⟨sO,n9⟩:∃ Q:Exit→Act→World→Prop,Hid (Q=fun e a W=>e = .normal∧∃ (g6:Nat),a.tmps=#[tG a 0,.pointer (some ⟨w.heap.size,0,none⟩),.pointer (some ⟨w.heap.size+1,0,none⟩),.pointer (some ⟨g3,0,none⟩),.pointer (some ⟨g4,0,none⟩),.pointer (some ⟨g5,0,none⟩),.pointer (some ⟨g6,0,none⟩),tG a 7,tG a 8,tG a 9,tG a 10,tG a 11,tG a 12,tG a 13,tG a 14,tG a 15,tG a 16,tG a 17,tG a 18,tG a 19,tG a 20,tG a 21,tG a 22,tG a 23,tG a 24,tG a 25,tG a 26,tG a 27,tG a 28,tG a 29,tG a 30,tG a 31,tG a 32,tG a 33,tG a 34,tG a 35,tG a 36,tG a 37,tG a 38,tG a 39,tG a 40,tG a 41,tG a 42,tG a 43,tG a 44,tG a 45,tG a 46,tG a 47,tG a 48,tG a 49,tG a 50,tG a 51,tG a 52,tG a 53,tG a 54,tG a 55,tG a 56,tG a 57,tG a 58,tG a 59,tG a 60,tG a 61,tG a 62,tG a 63,tG a 64,tG a 65,tG a 66,tG a 67,tG a 68,tG a 69,tG a 70,tG a 71,tG a 72,tG a 73,tG a 74]∧a.defers=[]∧((((Holds W w.heap.size 69 #[.int .u64 (x0:Int),.int .u64 (x1:Int),.int .u64 (x2:Int),.int .u64 (x3:Int),.int .u64 (y0:Int),.int .u64 (y1:Int),.int .u64 (y2:Int),.int .u64 (y3:Int),.int .u64 (z0:Int),.int .u64 (z1:Int),.int .u64 (z2:Int),.int .u64 (z3:Int)])∧(Holds W (w.heap.size+1) 69 #[.int .u64 0,.int .u64 0,.int .u64 0,.int .u64 0,.int .u64 0,.int .u64 0,.int .u64 0,.int .u64 0,.int .u64 0,.int .u64 0,.int .u64 0,.int .u64 0])∧(Below w.heap.size w W)∧(CMet W))∧(NumOr W g3 (some (en zz)))∧(NumOr W g4 (some (en yy)))∧(w.heap.size+1<g3)∧(w.heap.size+1<g4))∧(NumOr W g5 (some (en fm)))∧(w.heap.size+1<g5))∧(NumOr W g6 (some (en a1)))∧(g3≠g6)∧(g4≠g6)∧(g5≠g6)∧(w.heap.size+1<g6)):=⟨_,lH rfl⟩
 refine Code.wp_mono (Q:=sO) ?_ ?_
 rotate_left 1
 ·have n8:=lH (kt.out.1.1.1)
  have n_:=lH (kt.out.1.1.2.1)
  have qX:=lH (kt.out.1.1.2.2.1)
  have mc:=lH (kt.out.1.1.2.2.2)
  have jg:=lH (kt.out.1.2.1)
  have kZ:=lH (kt.out.1.2.2.1)
  have aV:=lH (kt.out.1.2.2.2.1)
  have aW:=lH (kt.out.1.2.2.2.2)
  have lL:=lH (kt.out.2.1)
  have bu:=lH (kt.out.2.2)
  have Hx:=lH (FV.out.2.1)
  have qM:=lH (FV.out.2.2.2.2.2.2.2.1)
  have qw:=lH (FV.out.2.2.2.2.2.2.2.2.1)
  have pt:=lH (FV.out.2.2.2.2.2.2.2.2.2.1)
  have cL:=lH (FV.out.2.2.2.2.2.2.2.2.2.2.2.2.2.2.2.2.2.2.2.2.2.2.2.2.2.2.2.2.1)
  have nY:=lH (FV.out.2.2.2.2.2.2.2.2.2.2.2.2.2.2.2.2.2.2.2.2.2.2.2.2.2.2.2.2.2.2.2.1)
  have nJ:=lH (FV.out.2.2.2.2.2.2.2.2.2.2.2.2.2.2.2.2.2.2.2.2.2.2.2.2.2.2.2.2.2.2.2.2.1)
  have aX:=lH (FV.out.2.2.2.2.2.2.2.2.2.2.2.2.2.2.2.2.2.2.2.2.2.2.2.2.2.2.2.2.2.2.2.2.2.1)
  clear kt FV
  have HF:Hid (∀ W,Below u2.heap.size u2 W→(((Holds W w.heap.size 69 #[.int .u64 (x0:Int),.int .u64 (x1:Int),.int .u64 (x2:Int),.int .u64 (x3:Int),.int .u64 (y0:Int),.int .u64 (y1:Int),.int .u64 (y2:Int),.int .u64 (y3:Int),.int .u64 (z0:Int),.int .u64 (z1:Int),.int .u64 (z2:Int),.int .u64 (z3:Int)])∧(Holds W (w.heap.size+1) 69 #[.int .u64 0,.int .u64 0,.int .u64 0,.int .u64 0,.int .u64 0,.int .u64 0,.int .u64 0,.int .u64 0,.int .u64 0,.int .u64 0,.int .u64 0,.int .u64 0])∧(Below w.heap.size w W)∧(CMet W))∧(NumOr W g3 (some (en zz)))∧(NumOr W g4 (some (en yy)))∧(w.heap.size+1<g3)∧(w.heap.size+1<g4))∧(NumOr W g5 (some (en fm)))∧(w.heap.size+1<g5)):=lH fun W h=>⟨⟨⟨n8.out.under h (Holds.lt n8),n_.out.under h (Holds.lt n_),qX.out.trans (h.mono qX.out.size),mc.out.under h⟩,NumOr.under jg h,NumOr.under kZ h,aV,aW⟩,NumOr.under lL h,bu⟩
  refine wp_region_noPanic ?_
  refine wp_region_held_drew (S:=fun W=>Below u2.heap.size u2 W) (by kernel_rfl) ((Below.refl _ u2).drew) (fun hHeld=>?_)
  obtain ⟨V,hV⟩:∃ W,W=u2.drew:=⟨_,rfl⟩
  rw [←hV]
  have aw:Hid (Below u2.heap.size u2 V):=lH (by rw [hV];exact (Below.refl _ u2).drew)
  replace hHeld:(fun W=>Below u2.heap.size u2 W) V:=aw.out
  clear hV
  refine tz 0 ⟨some 25,.fieldAddr 69 (.tmp 1) 0,0,_,_,none⟩ rfl hHeld ?_
  try simp only [aP]
  refine tk 1 ⟨some 26,.load 67 (.tmp 25),67,_,_,none⟩ ?_ rfl ?_ hHeld ?_
  rotate_left 1
  ·(intro W hW;have bX:=n8.out.under hW (Holds.lt n8.out);have k0:=bX.cell 0;have k1:=bX.cell 1;have k2:=bX.cell 2;have k3:=bX.cell 3;(try dsimp only at hW);go_simp;try with_reducible rfl)
  try simp only [aP]
  refine tk 2 ⟨some 27,.load 67 (.tmp 3),67,_,_,none⟩ ?_ rfl ?_ hHeld ?_
  rotate_left 1
  ·(intro W hW;have bO:=(NumOr.under jg.out hW).cells cL.out;obtain ⟨q0,q1,q2,q3⟩:=bO;(try dsimp only at hW);go_simp;try with_reducible rfl)
  try simp only [aP]
  refine tz 4 ⟨some 29,.fieldAddr 69 (.tmp 1) 0,0,_,_,none⟩ rfl hHeld ?_
  try simp only [aP]
  refine tk 5 ⟨some 30,.load 67 (.tmp 29),67,_,_,none⟩ ?_ rfl ?_ hHeld ?_
  rotate_left 1
  ·(intro W hW;have bX:=n8.out.under hW (Holds.lt n8.out);have k0:=bX.cell 0;have k1:=bX.cell 1;have k2:=bX.cell 2;have k3:=bX.cell 3;(try dsimp only at hW);go_simp;try with_reducible rfl)
  try simp only [aP]
  refine tk 6 ⟨some 31,.load 67 (.tmp 3),67,_,_,none⟩ ?_ rfl ?_ hHeld ?_
  rotate_left 1
  ·(intro W hW;have bO:=(NumOr.under jg.out hW).cells cL.out;obtain ⟨q0,q1,q2,q3⟩:=bO;(try dsimp only at hW);go_simp;try with_reducible rfl)
  try simp only [aP]
  refine wpAnyH_ready (rs:=[3,9]) (by kernel_rfl) (by simp) ?_
  refine AllReadyH.cons (o:=⟨some 28,.call ⟨ .value (.func 55),#[.tmp 26,.tmp 27],#[67,67]⟩,67,_,_,none⟩) rfl (fun K hK=>?_) ?_
  go_simp
  refine (subE V (mc.out.under aw) j.x zz Hx cL (by rw [←qM.out];exact nY.out)).mono ?_
  rintro e V3 ⟨rfl,ab⟩
  have aA:=lH (aw.out.trans (ab.mono aw.out.size))
  clear ab
  clear aw
  go_simp
  refine hK.out _ _ (aA.out) (fun hHeld=>?_)
  clear hK K
  try simp only [aP]
  refine wpAnyH_ready (rs:=[7,9]) (by kernel_rfl) (by simp) ?_
  refine AllReadyH.cons (o:=⟨some 32,.call ⟨ .value (.func 57),#[.tmp 30,.tmp 31],#[67,67]⟩,67,_,_,none⟩) rfl (fun K hK=>?_) ?_
  go_simp
  refine (addE V3 (mc.out.under aA) j.x zz Hx cL (by rw [←qw.out];exact nJ.out)).mono ?_
  rintro e qI ⟨rfl,ab⟩
  have bU:=lH (aA.out.trans (ab.mono aA.out.size))
  clear ab
  clear aA
  go_simp
  refine hK.out _ _ (bU.out) (fun hHeld=>?_)
  clear hK K
  try simp only [aP]
  refine wpAnyH_ready (rs:=[8,9]) (by kernel_rfl) (by simp) ?_
  refine AllReadyH.cons (o:=⟨some 33,.call ⟨ .value (.func 56),#[.tmp 28,.tmp 32],#[67,67]⟩,67,_,_,none⟩) rfl (fun K hK=>?_) ?_
  go_simp
  refine (mulE qI (mc.out.under bU) da db nY nJ (by rw [←pt.out];exact aX.out)).mono ?_
  rintro e ow ⟨rfl,ab⟩
  have dW:=lH (bU.out.trans (ab.mono bU.out.size))
  clear ab
  clear bU
  go_simp
  refine hK.out _ _ (dW.out) (fun hHeld=>?_)
  clear hK K
  try simp only [aP]
  refine rdy 9 ⟨some 6,.alloc 67,0,_,_,none⟩ rfl (fun K hK=>?_)
  obtain ⟨lg,hN⟩:∃ W,W=ow.alloc (.cells #[.int .u64 0,.int .u64 0,.int .u64 0,.int .u64 0] 67):=⟨_,rfl⟩
  go_simp
  rw [←hN]
  obtain ⟨g6,hg⟩:∃ g,g=ow.heap.size:=⟨_,rfl⟩
  rw [←hg]
  have gc:Hid (NumOr lg g6 none):=lH (by rw [hN,hg];exact NumOr.fresh _)
  have g_:=lH (by rw [hN];exact dW.out.alloc dW.out.size _:Below u2.heap.size u2 lg)
  have eO:Hid (u2.heap.size≤g6):=lH (by rw [hg];exact dW.out.size)
  clear hN hg
  have az:=lH (show g3≠g6 from (by have h1:=NumOr.lt jg.out;have h2:=eO.out;omega))
  have bP:=lH (show g4≠g6 from (by have h1:=NumOr.lt kZ.out;have h2:=eO.out;omega))
  have nH:=lH (show g5≠g6 from (by have h1:=NumOr.lt lL.out;have h2:=eO.out;omega))
  have nu:=lH (show w.heap.size+1<g6 from (by have h1:=Holds.lt n_.out;have h2:=eO.out;omega))
  clear dW
  refine hK.out _ _ (g_.out) (fun hHeld=>?_)
  clear hK K
  try simp only [aP]
  refine rdy 10 ⟨none,.store 67 (.tmp 6) (.tmp 33),0,_,_,none⟩ rfl (fun K hK=>?_)
  obtain ⟨am,av,au,ao,⟨z0,o0⟩,⟨z1,o1⟩,⟨z2,o2⟩,⟨z3,o3⟩⟩:=NumOr.facts gc.out
  obtain ⟨lj,hN⟩:∃ W,W=((((lg.setCell ⟨g6,0,none⟩ (.int .u64 (oE:Int))).setCell ⟨g6,1,none⟩ (.int .u64 (oP:Int))).setCell ⟨g6,2,none⟩ (.int .u64 (oD:Int))).setCell ⟨g6,3,none⟩ (.int .u64 (oY:Int))):=⟨_,rfl⟩
  go_simp
  rw [←hN]
  have lM:Hid (NumOr lj g6 (some (en a1))):=lH (by rw [hN];exact NumOr.set gc aX)
  have i7:=lH (by rw [hN];exact below4 g_ eO _ _ _ _:Below u2.heap.size u2 lj)
  clear hN z0 o0 z1 o1 z2 o2 z3 o3 am av au ao
  clear g_ gc
  refine hK.out _ _ (i7.out) (fun hHeld=>?_)
  clear hK K
  try simp only [aP]
  refine dn ?_
  rw [n9.out]
  exact ⟨rfl,g6,rfl,rfl,HF _ i7,lM,az,bP,nH,nu⟩
  refine AllReadyH.cons (o:=⟨some 6,.alloc 67,0,_,_,none⟩) rfl (fun K hK=>?_) AllReadyH.nil
  obtain ⟨nL,hN⟩:∃ W,W=qI.alloc (.cells #[.int .u64 0,.int .u64 0,.int .u64 0,.int .u64 0] 67):=⟨_,rfl⟩
  go_simp
  rw [←hN]
  obtain ⟨g6,hg⟩:∃ g,g=qI.heap.size:=⟨_,rfl⟩
  rw [←hg]
  have lD:Hid (NumOr nL g6 none):=lH (by rw [hN,hg];exact NumOr.fresh _)
  have eC:=lH (by rw [hN];exact bU.out.alloc bU.out.size _:Below u2.heap.size u2 nL)
  have eO:Hid (u2.heap.size≤g6):=lH (by rw [hg];exact bU.out.size)
  clear hN hg
  have az:=lH (show g3≠g6 from (by have h1:=NumOr.lt jg.out;have h2:=eO.out;omega))
  have bP:=lH (show g4≠g6 from (by have h1:=NumOr.lt kZ.out;have h2:=eO.out;omega))
  have nH:=lH (show g5≠g6 from (by have h1:=NumOr.lt lL.out;have h2:=eO.out;omega))
  have nu:=lH (show w.heap.size+1<g6 from (by have h1:=Holds.lt n_.out;have h2:=eO.out;omega))
  clear bU
  refine hK.out _ _ (eC.out) (fun hHeld=>?_)
  clear hK K
  try simp only [aP]
  refine rdy 8 ⟨some 33,.call ⟨ .value (.func 56),#[.tmp 28,.tmp 32],#[67,67]⟩,67,_,_,none⟩ rfl (fun K hK=>?_)
  go_simp
  refine (mulE nL (mc.out.under eC) da db nY nJ (by rw [←pt.out];exact aX.out)).mono ?_
  rintro e ns ⟨rfl,ab⟩
  have fI:=lH (eC.out.trans (ab.mono eC.out.size))
  have gO:Hid (NumOr ns g6 none):=lH (NumOr.under lD ab)
  clear ab
  clear eC lD
  go_simp
  refine hK.out _ _ (fI.out) (fun hHeld=>?_)
  clear hK K
  try simp only [aP]
  refine rdy 10 ⟨none,.store 67 (.tmp 6) (.tmp 33),0,_,_,none⟩ rfl (fun K hK=>?_)
  obtain ⟨am,av,au,ao,⟨z0,o0⟩,⟨z1,o1⟩,⟨z2,o2⟩,⟨z3,o3⟩⟩:=NumOr.facts gO.out
  obtain ⟨lp,hN⟩:∃ W,W=((((ns.setCell ⟨g6,0,none⟩ (.int .u64 (oE:Int))).setCell ⟨g6,1,none⟩ (.int .u64 (oP:Int))).setCell ⟨g6,2,none⟩ (.int .u64 (oD:Int))).setCell ⟨g6,3,none⟩ (.int .u64 (oY:Int))):=⟨_,rfl⟩
  go_simp
  rw [←hN]
  have kK:Hid (NumOr lp g6 (some (en a1))):=lH (by rw [hN];exact NumOr.set gO aX)
  have jb:=lH (by rw [hN];exact below4 fI eO _ _ _ _:Below u2.heap.size u2 lp)
  clear hN z0 o0 z1 o1 z2 o2 z3 o3 am av au ao
  clear fI gO
  refine hK.out _ _ (jb.out) (fun hHeld=>?_)
  clear hK K
  try simp only [aP]
  refine dn ?_
  rw [n9.out]
  exact ⟨rfl,g6,rfl,rfl,HF _ jb,kK,az,bP,nH,nu⟩
  refine AllReadyH.cons (o:=⟨some 6,.alloc 67,0,_,_,none⟩) rfl (fun K hK=>?_) AllReadyH.nil
  obtain ⟨qB,hN⟩:∃ W,W=V3.alloc (.cells #[.int .u64 0,.int .u64 0,.int .u64 0,.int .u64 0] 67):=⟨_,rfl⟩
  go_simp
  rw [←hN]
  obtain ⟨g6,hg⟩:∃ g,g=V3.heap.size:=⟨_,rfl⟩
  rw [←hg]
  have mY:Hid (NumOr qB g6 none):=lH (by rw [hN,hg];exact NumOr.fresh _)
  have iJ:=lH (by rw [hN];exact aA.out.alloc aA.out.size _:Below u2.heap.size u2 qB)
  have eO:Hid (u2.heap.size≤g6):=lH (by rw [hg];exact aA.out.size)
  clear hN hg
  have az:=lH (show g3≠g6 from (by have h1:=NumOr.lt jg.out;have h2:=eO.out;omega))
  have bP:=lH (show g4≠g6 from (by have h1:=NumOr.lt kZ.out;have h2:=eO.out;omega))
  have nH:=lH (show g5≠g6 from (by have h1:=NumOr.lt lL.out;have h2:=eO.out;omega))
  have nu:=lH (show w.heap.size+1<g6 from (by have h1:=Holds.lt n_.out;have h2:=eO.out;omega))
  clear aA
  refine hK.out _ _ (iJ.out) (fun hHeld=>?_)
  clear hK K
  try simp only [aP]
  refine rdy 7 ⟨some 32,.call ⟨ .value (.func 57),#[.tmp 30,.tmp 31],#[67,67]⟩,67,_,_,none⟩ rfl (fun K hK=>?_)
  go_simp
  refine (addE qB (mc.out.under iJ) j.x zz Hx cL (by rw [←qw.out];exact nJ.out)).mono ?_
  rintro e oQ ⟨rfl,ab⟩
  have eM:=lH (iJ.out.trans (ab.mono iJ.out.size))
  have lA:Hid (NumOr oQ g6 none):=lH (NumOr.under mY ab)
  clear ab
  clear iJ mY
  go_simp
  refine hK.out _ _ (eM.out) (fun hHeld=>?_)
  clear hK K
  try simp only [aP]
  refine rdy 8 ⟨some 33,.call ⟨ .value (.func 56),#[.tmp 28,.tmp 32],#[67,67]⟩,67,_,_,none⟩ rfl (fun K hK=>?_)
  go_simp
  refine (mulE oQ (mc.out.under eM) da db nY nJ (by rw [←pt.out];exact aX.out)).mono ?_
  rintro e nn ⟨rfl,ab⟩
  have gw:=lH (eM.out.trans (ab.mono eM.out.size))
  have fS:Hid (NumOr nn g6 none):=lH (NumOr.under lA ab)
  clear ab
  clear eM lA
  go_simp
  refine hK.out _ _ (gw.out) (fun hHeld=>?_)
  clear hK K
  try simp only [aP]
  refine rdy 10 ⟨none,.store 67 (.tmp 6) (.tmp 33),0,_,_,none⟩ rfl (fun K hK=>?_)
  obtain ⟨am,av,au,ao,⟨z0,o0⟩,⟨z1,o1⟩,⟨z2,o2⟩,⟨z3,o3⟩⟩:=NumOr.facts fS.out
  obtain ⟨lV,hN⟩:∃ W,W=((((nn.setCell ⟨g6,0,none⟩ (.int .u64 (oE:Int))).setCell ⟨g6,1,none⟩ (.int .u64 (oP:Int))).setCell ⟨g6,2,none⟩ (.int .u64 (oD:Int))).setCell ⟨g6,3,none⟩ (.int .u64 (oY:Int))):=⟨_,rfl⟩
  go_simp
  rw [←hN]
  have kG:Hid (NumOr lV g6 (some (en a1))):=lH (by rw [hN];exact NumOr.set fS aX)
  have iw:=lH (by rw [hN];exact below4 gw eO _ _ _ _:Below u2.heap.size u2 lV)
  clear hN z0 o0 z1 o1 z2 o2 z3 o3 am av au ao
  clear gw fS
  refine hK.out _ _ (iw.out) (fun hHeld=>?_)
  clear hK K
  try simp only [aP]
  refine dn ?_
  rw [n9.out]
  exact ⟨rfl,g6,rfl,rfl,HF _ iw,kG,az,bP,nH,nu⟩
  refine AllReadyH.cons (o:=⟨some 6,.alloc 67,0,_,_,none⟩) rfl (fun K hK=>?_) AllReadyH.nil
  obtain ⟨V9,hN⟩:∃ W,W=V.alloc (.cells #[.int .u64 0,.int .u64 0,.int .u64 0,.int .u64 0] 67):=⟨_,rfl⟩
  go_simp
  rw [←hN]
  obtain ⟨g6,hg⟩:∃ g,g=V.heap.size:=⟨_,rfl⟩
  rw [←hg]
  have oR:Hid (NumOr V9 g6 none):=lH (by rw [hN,hg];exact NumOr.fresh _)
  have kO:=lH (by rw [hN];exact aw.out.alloc aw.out.size _:Below u2.heap.size u2 V9)
  have eO:Hid (u2.heap.size≤g6):=lH (by rw [hg];exact aw.out.size)
  clear hN hg
  have az:=lH (show g3≠g6 from (by have h1:=NumOr.lt jg.out;have h2:=eO.out;omega))
  have bP:=lH (show g4≠g6 from (by have h1:=NumOr.lt kZ.out;have h2:=eO.out;omega))
  have nH:=lH (show g5≠g6 from (by have h1:=NumOr.lt lL.out;have h2:=eO.out;omega))
  have nu:=lH (show w.heap.size+1<g6 from (by have h1:=Holds.lt n_.out;have h2:=eO.out;omega))
  clear aw
  refine hK.out _ _ (kO.out) (fun hHeld=>?_)
  clear hK K
  try simp only [aP]
  refine rdy 3 ⟨some 28,.call ⟨ .value (.func 55),#[.tmp 26,.tmp 27],#[67,67]⟩,67,_,_,none⟩ rfl (fun K hK=>?_)
  go_simp
  refine (subE V9 (mc.out.under kO) j.x zz Hx cL (by rw [←qM.out];exact nY.out)).mono ?_
  rintro e rt ⟨rfl,ab⟩
  have i4:=lH (kO.out.trans (ab.mono kO.out.size))
  have mO:Hid (NumOr rt g6 none):=lH (NumOr.under oR ab)
  clear ab
  clear kO oR
  go_simp
  refine hK.out _ _ (i4.out) (fun hHeld=>?_)
  clear hK K
  try simp only [aP]
  refine rdy 7 ⟨some 32,.call ⟨ .value (.func 57),#[.tmp 30,.tmp 31],#[67,67]⟩,67,_,_,none⟩ rfl (fun K hK=>?_)
  go_simp
  refine (addE rt (mc.out.under i4) j.x zz Hx cL (by rw [←qw.out];exact nJ.out)).mono ?_
  rintro e oT ⟨rfl,ab⟩
  have dI:=lH (i4.out.trans (ab.mono i4.out.size))
  have lE:Hid (NumOr oT g6 none):=lH (NumOr.under mO ab)
  clear ab
  clear i4 mO
  go_simp
  refine hK.out _ _ (dI.out) (fun hHeld=>?_)
  clear hK K
  try simp only [aP]
  refine rdy 8 ⟨some 33,.call ⟨ .value (.func 56),#[.tmp 28,.tmp 32],#[67,67]⟩,67,_,_,none⟩ rfl (fun K hK=>?_)
  go_simp
  refine (mulE oT (mc.out.under dI) da db nY nJ (by rw [←pt.out];exact aX.out)).mono ?_
  rintro e mW ⟨rfl,ab⟩
  have fY:=lH (dI.out.trans (ab.mono dI.out.size))
  have fH:Hid (NumOr mW g6 none):=lH (NumOr.under lE ab)
  clear ab
  clear dI lE
  go_simp
  refine hK.out _ _ (fY.out) (fun hHeld=>?_)
  clear hK K
  try simp only [aP]
  refine rdy 10 ⟨none,.store 67 (.tmp 6) (.tmp 33),0,_,_,none⟩ rfl (fun K hK=>?_)
  obtain ⟨am,av,au,ao,⟨z0,o0⟩,⟨z1,o1⟩,⟨z2,o2⟩,⟨z3,o3⟩⟩:=NumOr.facts fH.out
  obtain ⟨ld,hN⟩:∃ W,W=((((mW.setCell ⟨g6,0,none⟩ (.int .u64 (oE:Int))).setCell ⟨g6,1,none⟩ (.int .u64 (oP:Int))).setCell ⟨g6,2,none⟩ (.int .u64 (oD:Int))).setCell ⟨g6,3,none⟩ (.int .u64 (oY:Int))):=⟨_,rfl⟩
  go_simp
  rw [←hN]
  have kW:Hid (NumOr ld g6 (some (en a1))):=lH (by rw [hN];exact NumOr.set fH aX)
  have iz:=lH (by rw [hN];exact below4 fY eO _ _ _ _:Below u2.heap.size u2 ld)
  clear hN z0 o0 z1 o1 z2 o2 z3 o3 am av au ao
  clear fY fH
  refine hK.out _ _ (iz.out) (fun hHeld=>?_)
  clear hK K
  try simp only [aP]
  refine dn ?_
  rw [n9.out]
  exact ⟨rfl,g6,rfl,rfl,HF _ iz,kW,az,bP,nH,nu⟩
 rintro e a u3 hq
 rw [n9.out] at hq
 obtain ⟨rfl,g6,bN,ee,dC⟩:=hq
 have ix:=lH dC
 clear dC n9 kt
 obtain ⟨tm,df⟩:=a
 dsimp only at bN ee
 subst ee
 obtain ⟨U,hU⟩:∃ U:Nat→Value,∀ i,tm.getD i undef=U i:=⟨_,fun _=>rfl⟩
 simp only [tG,hU] at bN
 clear hU
 subst bN
 go_step
 go_step
 (repeat (first | (apply wp_seq_k;intro _ _) | apply wp_block))
 obtain ⟨sW,mb⟩:∃ Q:Exit→Act→World→Prop,Hid (Q=fun e a W=>e = .normal∧a.tmps=#[tG a 0,.pointer (some ⟨w.heap.size,0,none⟩),.pointer (some ⟨w.heap.size+1,0,none⟩),.pointer (some ⟨g3,0,none⟩),.pointer (some ⟨g4,0,none⟩),.pointer (some ⟨g5,0,none⟩),.pointer (some ⟨g6,0,none⟩),tG a 7,tG a 8,tG a 9,tG a 10,tG a 11,tG a 12,tG a 13,tG a 14,tG a 15,tG a 16,tG a 17,tG a 18,tG a 19,tG a 20,tG a 21,tG a 22,tG a 23,tG a 24,tG a 25,tG a 26,tG a 27,tG a 28,tG a 29,tG a 30,tG a 31,tG a 32,tG a 33,tG a 34,tG a 35,tG a 36,tG a 37,tG a 38,tG a 39,tG a 40,tG a 41,tG a 42,tG a 43,tG a 44,tG a 45,tG a 46,tG a 47,tG a 48,tG a 49,tG a 50,tG a 51,tG a 52,tG a 53,tG a 54,tG a 55,tG a 56,tG a 57,tG a 58,tG a 59,tG a 60,tG a 61,tG a 62,tG a 63,tG a 64,tG a 65,tG a 66,tG a 67,tG a 68,tG a 69,tG a 70,tG a 71,tG a 72,tG a 73,tG a 74]∧a.defers=[]∧(Holds W w.heap.size 69 #[.int .u64 (x0:Int),.int .u64 (x1:Int),.int .u64 (x2:Int),.int .u64 (x3:Int),.int .u64 (y0:Int),.int .u64 (y1:Int),.int .u64 (y2:Int),.int .u64 (y3:Int),.int .u64 (z0:Int),.int .u64 (z1:Int),.int .u64 (z2:Int),.int .u64 (z3:Int)])∧(Holds W (w.heap.size+1) 69 #[.int .u64 0,.int .u64 0,.int .u64 0,.int .u64 0,.int .u64 0,.int .u64 0,.int .u64 0,.int .u64 0,.int .u64 0,.int .u64 0,.int .u64 0,.int .u64 0])∧(Below w.heap.size w W)∧(CMet W)∧(NumOr W g3 (some (en zz)))∧(NumOr W g4 (some (en yy)))∧(w.heap.size+1<g3)∧(w.heap.size+1<g4)∧(NumOr W g5 (some (en fm)))∧(w.heap.size+1<g5)∧(NumOr W g6 (some (en a3)))∧(g3≠g6)∧(g4≠g6)∧(g5≠g6)∧(w.heap.size+1<g6)):=⟨_,lH rfl⟩
 refine Code.wp_mono (Q:=sW) ?_ ?_
 rotate_left 1
 ·have jd:=lH (ix.out.1.1.1.1)
  have jc:=lH (ix.out.1.1.1.2.1)
  have bK:=lH (ix.out.1.1.1.2.2.1)
  have jf:=lH (ix.out.1.1.1.2.2.2)
  have iC:=lH (ix.out.1.1.2.1)
  have ir:=lH (ix.out.1.1.2.2.1)
  have aV:=lH (ix.out.1.1.2.2.2.1)
  have aW:=lH (ix.out.1.1.2.2.2.2)
  have im:=lH (ix.out.1.2.1)
  have bu:=lH (ix.out.1.2.2)
  have aD:=lH (ix.out.2.1)
  have aH:=lH (ix.out.2.2.1)
  have aJ:=lH (ix.out.2.2.2.1)
  have aG:=lH (ix.out.2.2.2.2.1)
  have ak:=lH (ix.out.2.2.2.2.2)
  have ku:=lH (FV.out.1)
  have mH:=lH (FV.out.2.2.2.2.2.2.2.2.2.2.1)
  have nc:=lH (FV.out.2.2.2.2.2.2.2.2.2.2.2.1)
  have aX:=lH (FV.out.2.2.2.2.2.2.2.2.2.2.2.2.2.2.2.2.2.2.2.2.2.2.2.2.2.2.2.2.2.2.2.2.2.1)
  have je:=lH (FV.out.2.2.2.2.2.2.2.2.2.2.2.2.2.2.2.2.2.2.2.2.2.2.2.2.2.2.2.2.2.2.2.2.2.2.1)
  have cM:=lH (FV.out.2.2.2.2.2.2.2.2.2.2.2.2.2.2.2.2.2.2.2.2.2.2.2.2.2.2.2.2.2.2.2.2.2.2.2.1)
  clear ix FV
  refine wp_region_noPanic ?_
  refine wp_region_held_drew (S:=fun _=>True) (by kernel_rfl) trivial (fun hHeld=>?_)
  obtain ⟨V,hV⟩:∃ W,W=u3.drew:=⟨_,rfl⟩
  rw [←hV]
  have aw:Hid (Below u3.heap.size u3 V):=lH (by rw [hV];exact (Below.refl _ u3).drew)
  obtain ⟨q0,q1,q2,q3⟩:=(NumOr.under aD aw).cells aX.out
  clear hV
  refine wpAnyH_ready (rs:=[0,1,2]) (by kernel_rfl) (by simp) ?_
  refine AllReadyH.cons (o:=⟨some 34,.load 67 (.tmp 6),67,_,_,none⟩) rfl (fun K hK=>?_) ?_
  ·go_simp
   refine hK.out _ _ trivial (fun hHeld=>?_)
   clear hK K
   try simp only [aP]
   refine wpAnyH_ready (rs:=[1,2]) (by kernel_rfl) (by simp) ?_
   refine AllReadyH.cons (o:=⟨some 35,.load 67 (.tmp 6),67,_,_,none⟩) rfl (fun K hK=>?_) ?_
   ·go_simp
    refine hK.out _ _ trivial (fun hHeld=>?_)
    clear hK K
    try simp only [aP]
    refine rdy 2 ⟨some 36,.load 67 (.tmp 6),67,_,_,none⟩ rfl (fun K hK=>?_)
    go_simp
    refine hK.out _ _ trivial (fun hHeld=>?_)
    clear hK K
    try simp only [aP]
    refine rdy 3 ⟨some 37,.call ⟨ .value (.func 57),#[.tmp 35,.tmp 36],#[67,67]⟩,67,_,_,none⟩ rfl (fun K hK=>?_)
    go_simp
    refine (addE V (jf.out.under aw) a1 a1 aX aX (by rw [←mH.out];exact je.out)).mono ?_
    rintro e V1 ⟨rfl,ab⟩
    have ai:=lH (aw.out.trans (ab.mono aw.out.size))
    obtain ⟨r0,r1,r2,r3⟩:=(NumOr.under aD ai).cells aX.out
    clear ab
    go_simp
    refine hK.out _ _ trivial (fun hHeld=>?_)
    clear hK K
    try simp only [aP]
    refine rdy 4 ⟨some 38,.call ⟨ .value (.func 57),#[.tmp 34,.tmp 37],#[67,67]⟩,67,_,_,none⟩ rfl (fun K hK=>?_)
    go_simp
    refine (addE V1 (jf.out.under ai) a1 a2 aX je (by rw [←nc.out];exact cM.out)).mono ?_
    rintro e V2 ⟨rfl,ab⟩
    have ac:=lH (ai.out.trans (ab.mono ai.out.size))
    clear ab
    go_simp
    refine hK.out _ _ trivial (fun hHeld=>?_)
    clear hK K
    try simp only [aP]
    refine rdy 5 ⟨none,.store 67 (.tmp 6) (.tmp 38),0,_,_,none⟩ rfl (fun K hK=>?_)
    obtain ⟨am,av,au,ao,⟨z0,o0⟩,⟨z1,o1⟩,⟨z2,o2⟩,⟨z3,o3⟩⟩:=NumOr.facts (NumOr.under aD ac)
    obtain ⟨V3,hN⟩:∃ W,W=((((V2.setCell ⟨g6,0,none⟩ (.int .u64 (ms:Int))).setCell ⟨g6,1,none⟩ (.int .u64 (mp:Int))).setCell ⟨g6,2,none⟩ (.int .u64 (my:Int))).setCell ⟨g6,3,none⟩ (.int .u64 (mj:Int))):=⟨_,rfl⟩
    go_simp
    rw [←hN]
    refine hK.out _ _ trivial (fun hHeld=>?_)
    clear hK K
    try simp only [aP]
    refine dn ?_
    rw [mb.out]
    exact ⟨rfl,rfl,rfl,(by rw [hN];exact holds_aside4 (jd.out.under ac (Holds.lt jd)) (k:=g6) (by have:=ak.out;omega) _ _ _ _),(by rw [hN];exact holds_aside4 (jc.out.under ac (Holds.lt jc)) (k:=g6) (by have:=ak.out;omega) _ _ _ _),(by rw [hN];exact below4 (bK.out.trans (ac.out.mono bK.out.size)) (by have:=ak.out;omega) _ _ _ _),(by rw [hN];exact ku.out.under (below4 (bK.out.trans (ac.out.mono bK.out.size)) (by have:=ak.out;omega) _ _ _ _)),(by rw [hN];exact NumOr.aside4 (NumOr.under iC ac) aH _ _ _ _),(by rw [hN];exact NumOr.aside4 (NumOr.under ir ac) aJ _ _ _ _),aV,aW,(by rw [hN];exact NumOr.aside4 (NumOr.under im ac) aG _ _ _ _),bu,(by rw [hN];exact NumOr.set (NumOr.under aD ac) cM),aH,aJ,aG,ak⟩
   refine AllReadyH.cons (o:=⟨some 36,.load 67 (.tmp 6),67,_,_,none⟩) rfl (fun K hK=>?_) AllReadyH.nil
   go_simp
   refine hK.out _ _ trivial (fun hHeld=>?_)
   clear hK K
   try simp only [aP]
   refine rdy 1 ⟨some 35,.load 67 (.tmp 6),67,_,_,none⟩ rfl (fun K hK=>?_)
   go_simp
   refine hK.out _ _ trivial (fun hHeld=>?_)
   clear hK K
   try simp only [aP]
   refine rdy 3 ⟨some 37,.call ⟨ .value (.func 57),#[.tmp 35,.tmp 36],#[67,67]⟩,67,_,_,none⟩ rfl (fun K hK=>?_)
   go_simp
   refine (addE V (jf.out.under aw) a1 a1 aX aX (by rw [←mH.out];exact je.out)).mono ?_
   rintro e V1 ⟨rfl,ab⟩
   have ai:=lH (aw.out.trans (ab.mono aw.out.size))
   obtain ⟨r0,r1,r2,r3⟩:=(NumOr.under aD ai).cells aX.out
   clear ab
   go_simp
   refine hK.out _ _ trivial (fun hHeld=>?_)
   clear hK K
   try simp only [aP]
   refine rdy 4 ⟨some 38,.call ⟨ .value (.func 57),#[.tmp 34,.tmp 37],#[67,67]⟩,67,_,_,none⟩ rfl (fun K hK=>?_)
   go_simp
   refine (addE V1 (jf.out.under ai) a1 a2 aX je (by rw [←nc.out];exact cM.out)).mono ?_
   rintro e V2 ⟨rfl,ab⟩
   have ac:=lH (ai.out.trans (ab.mono ai.out.size))
   clear ab
   go_simp
   refine hK.out _ _ trivial (fun hHeld=>?_)
   clear hK K
   try simp only [aP]
   refine rdy 5 ⟨none,.store 67 (.tmp 6) (.tmp 38),0,_,_,none⟩ rfl (fun K hK=>?_)
   obtain ⟨am,av,au,ao,⟨z0,o0⟩,⟨z1,o1⟩,⟨z2,o2⟩,⟨z3,o3⟩⟩:=NumOr.facts (NumOr.under aD ac)
   obtain ⟨V3,hN⟩:∃ W,W=((((V2.setCell ⟨g6,0,none⟩ (.int .u64 (ms:Int))).setCell ⟨g6,1,none⟩ (.int .u64 (mp:Int))).setCell ⟨g6,2,none⟩ (.int .u64 (my:Int))).setCell ⟨g6,3,none⟩ (.int .u64 (mj:Int))):=⟨_,rfl⟩
   go_simp
   rw [←hN]
   refine hK.out _ _ trivial (fun hHeld=>?_)
   clear hK K
   try simp only [aP]
   refine dn ?_
   rw [mb.out]
   exact ⟨rfl,rfl,rfl,(by rw [hN];exact holds_aside4 (jd.out.under ac (Holds.lt jd)) (k:=g6) (by have:=ak.out;omega) _ _ _ _),(by rw [hN];exact holds_aside4 (jc.out.under ac (Holds.lt jc)) (k:=g6) (by have:=ak.out;omega) _ _ _ _),(by rw [hN];exact below4 (bK.out.trans (ac.out.mono bK.out.size)) (by have:=ak.out;omega) _ _ _ _),(by rw [hN];exact ku.out.under (below4 (bK.out.trans (ac.out.mono bK.out.size)) (by have:=ak.out;omega) _ _ _ _)),(by rw [hN];exact NumOr.aside4 (NumOr.under iC ac) aH _ _ _ _),(by rw [hN];exact NumOr.aside4 (NumOr.under ir ac) aJ _ _ _ _),aV,aW,(by rw [hN];exact NumOr.aside4 (NumOr.under im ac) aG _ _ _ _),bu,(by rw [hN];exact NumOr.set (NumOr.under aD ac) cM),aH,aJ,aG,ak⟩
  refine AllReadyH.cons (o:=⟨some 35,.load 67 (.tmp 6),67,_,_,none⟩) rfl (fun K hK=>?_) ?_
  ·go_simp
   refine hK.out _ _ trivial (fun hHeld=>?_)
   clear hK K
   try simp only [aP]
   refine wpAnyH_ready (rs:=[0,2]) (by kernel_rfl) (by simp) ?_
   refine AllReadyH.cons (o:=⟨some 34,.load 67 (.tmp 6),67,_,_,none⟩) rfl (fun K hK=>?_) ?_
   ·go_simp
    refine hK.out _ _ trivial (fun hHeld=>?_)
    clear hK K
    try simp only [aP]
    refine rdy 2 ⟨some 36,.load 67 (.tmp 6),67,_,_,none⟩ rfl (fun K hK=>?_)
    go_simp
    refine hK.out _ _ trivial (fun hHeld=>?_)
    clear hK K
    try simp only [aP]
    refine rdy 3 ⟨some 37,.call ⟨ .value (.func 57),#[.tmp 35,.tmp 36],#[67,67]⟩,67,_,_,none⟩ rfl (fun K hK=>?_)
    go_simp
    refine (addE V (jf.out.under aw) a1 a1 aX aX (by rw [←mH.out];exact je.out)).mono ?_
    rintro e V1 ⟨rfl,ab⟩
    have ai:=lH (aw.out.trans (ab.mono aw.out.size))
    obtain ⟨r0,r1,r2,r3⟩:=(NumOr.under aD ai).cells aX.out
    clear ab
    go_simp
    refine hK.out _ _ trivial (fun hHeld=>?_)
    clear hK K
    try simp only [aP]
    refine rdy 4 ⟨some 38,.call ⟨ .value (.func 57),#[.tmp 34,.tmp 37],#[67,67]⟩,67,_,_,none⟩ rfl (fun K hK=>?_)
    go_simp
    refine (addE V1 (jf.out.under ai) a1 a2 aX je (by rw [←nc.out];exact cM.out)).mono ?_
    rintro e V2 ⟨rfl,ab⟩
    have ac:=lH (ai.out.trans (ab.mono ai.out.size))
    clear ab
    go_simp
    refine hK.out _ _ trivial (fun hHeld=>?_)
    clear hK K
    try simp only [aP]
    refine rdy 5 ⟨none,.store 67 (.tmp 6) (.tmp 38),0,_,_,none⟩ rfl (fun K hK=>?_)
    obtain ⟨am,av,au,ao,⟨z0,o0⟩,⟨z1,o1⟩,⟨z2,o2⟩,⟨z3,o3⟩⟩:=NumOr.facts (NumOr.under aD ac)
    obtain ⟨V3,hN⟩:∃ W,W=((((V2.setCell ⟨g6,0,none⟩ (.int .u64 (ms:Int))).setCell ⟨g6,1,none⟩ (.int .u64 (mp:Int))).setCell ⟨g6,2,none⟩ (.int .u64 (my:Int))).setCell ⟨g6,3,none⟩ (.int .u64 (mj:Int))):=⟨_,rfl⟩
    go_simp
    rw [←hN]
    refine hK.out _ _ trivial (fun hHeld=>?_)
    clear hK K
    try simp only [aP]
    refine dn ?_
    rw [mb.out]
    exact ⟨rfl,rfl,rfl,(by rw [hN];exact holds_aside4 (jd.out.under ac (Holds.lt jd)) (k:=g6) (by have:=ak.out;omega) _ _ _ _),(by rw [hN];exact holds_aside4 (jc.out.under ac (Holds.lt jc)) (k:=g6) (by have:=ak.out;omega) _ _ _ _),(by rw [hN];exact below4 (bK.out.trans (ac.out.mono bK.out.size)) (by have:=ak.out;omega) _ _ _ _),(by rw [hN];exact ku.out.under (below4 (bK.out.trans (ac.out.mono bK.out.size)) (by have:=ak.out;omega) _ _ _ _)),(by rw [hN];exact NumOr.aside4 (NumOr.under iC ac) aH _ _ _ _),(by rw [hN];exact NumOr.aside4 (NumOr.under ir ac) aJ _ _ _ _),aV,aW,(by rw [hN];exact NumOr.aside4 (NumOr.under im ac) aG _ _ _ _),bu,(by rw [hN];exact NumOr.set (NumOr.under aD ac) cM),aH,aJ,aG,ak⟩
   refine AllReadyH.cons (o:=⟨some 36,.load 67 (.tmp 6),67,_,_,none⟩) rfl (fun K hK=>?_) AllReadyH.nil
   go_simp
   refine hK.out _ _ trivial (fun hHeld=>?_)
   clear hK K
   try simp only [aP]
   refine wpAnyH_ready (rs:=[0,3]) (by kernel_rfl) (by simp) ?_
   refine AllReadyH.cons (o:=⟨some 34,.load 67 (.tmp 6),67,_,_,none⟩) rfl (fun K hK=>?_) ?_
   ·go_simp
    refine hK.out _ _ trivial (fun hHeld=>?_)
    clear hK K
    try simp only [aP]
    refine rdy 3 ⟨some 37,.call ⟨ .value (.func 57),#[.tmp 35,.tmp 36],#[67,67]⟩,67,_,_,none⟩ rfl (fun K hK=>?_)
    go_simp
    refine (addE V (jf.out.under aw) a1 a1 aX aX (by rw [←mH.out];exact je.out)).mono ?_
    rintro e V1 ⟨rfl,ab⟩
    have ai:=lH (aw.out.trans (ab.mono aw.out.size))
    obtain ⟨r0,r1,r2,r3⟩:=(NumOr.under aD ai).cells aX.out
    clear ab
    go_simp
    refine hK.out _ _ trivial (fun hHeld=>?_)
    clear hK K
    try simp only [aP]
    refine rdy 4 ⟨some 38,.call ⟨ .value (.func 57),#[.tmp 34,.tmp 37],#[67,67]⟩,67,_,_,none⟩ rfl (fun K hK=>?_)
    go_simp
    refine (addE V1 (jf.out.under ai) a1 a2 aX je (by rw [←nc.out];exact cM.out)).mono ?_
    rintro e V2 ⟨rfl,ab⟩
    have ac:=lH (ai.out.trans (ab.mono ai.out.size))
    clear ab
    go_simp
    refine hK.out _ _ trivial (fun hHeld=>?_)
    clear hK K
    try simp only [aP]
    refine rdy 5 ⟨none,.store 67 (.tmp 6) (.tmp 38),0,_,_,none⟩ rfl (fun K hK=>?_)
    obtain ⟨am,av,au,ao,⟨z0,o0⟩,⟨z1,o1⟩,⟨z2,o2⟩,⟨z3,o3⟩⟩:=NumOr.facts (NumOr.under aD ac)
    obtain ⟨V3,hN⟩:∃ W,W=((((V2.setCell ⟨g6,0,none⟩ (.int .u64 (ms:Int))).setCell ⟨g6,1,none⟩ (.int .u64 (mp:Int))).setCell ⟨g6,2,none⟩ (.int .u64 (my:Int))).setCell ⟨g6,3,none⟩ (.int .u64 (mj:Int))):=⟨_,rfl⟩
    go_simp
    rw [←hN]
    refine hK.out _ _ trivial (fun hHeld=>?_)
    clear hK K
    try simp only [aP]
    refine dn ?_
    rw [mb.out]
    exact ⟨rfl,rfl,rfl,(by rw [hN];exact holds_aside4 (jd.out.under ac (Holds.lt jd)) (k:=g6) (by have:=ak.out;omega) _ _ _ _),(by rw [hN];exact holds_aside4 (jc.out.under ac (Holds.lt jc)) (k:=g6) (by have:=ak.out;omega) _ _ _ _),(by rw [hN];exact below4 (bK.out.trans (ac.out.mono bK.out.size)) (by have:=ak.out;omega) _ _ _ _),(by rw [hN];exact ku.out.under (below4 (bK.out.trans (ac.out.mono bK.out.size)) (by have:=ak.out;omega) _ _ _ _)),(by rw [hN];exact NumOr.aside4 (NumOr.under iC ac) aH _ _ _ _),(by rw [hN];exact NumOr.aside4 (NumOr.under ir ac) aJ _ _ _ _),aV,aW,(by rw [hN];exact NumOr.aside4 (NumOr.under im ac) aG _ _ _ _),bu,(by rw [hN];exact NumOr.set (NumOr.under aD ac) cM),aH,aJ,aG,ak⟩
   refine AllReadyH.cons (o:=⟨some 37,.call ⟨ .value (.func 57),#[.tmp 35,.tmp 36],#[67,67]⟩,67,_,_,none⟩) rfl (fun K hK=>?_) AllReadyH.nil
   go_simp
   refine (addE V (jf.out.under aw) a1 a1 aX aX (by rw [←mH.out];exact je.out)).mono ?_
   rintro e V1 ⟨rfl,ab⟩
   have ai:=lH (aw.out.trans (ab.mono aw.out.size))
   obtain ⟨r0,r1,r2,r3⟩:=(NumOr.under aD ai).cells aX.out
   clear ab
   go_simp
   refine hK.out _ _ trivial (fun hHeld=>?_)
   clear hK K
   try simp only [aP]
   refine rdy 0 ⟨some 34,.load 67 (.tmp 6),67,_,_,none⟩ rfl (fun K hK=>?_)
   go_simp
   refine hK.out _ _ trivial (fun hHeld=>?_)
   clear hK K
   try simp only [aP]
   refine rdy 4 ⟨some 38,.call ⟨ .value (.func 57),#[.tmp 34,.tmp 37],#[67,67]⟩,67,_,_,none⟩ rfl (fun K hK=>?_)
   go_simp
   refine (addE V1 (jf.out.under ai) a1 a2 aX je (by rw [←nc.out];exact cM.out)).mono ?_
   rintro e V2 ⟨rfl,ab⟩
   have ac:=lH (ai.out.trans (ab.mono ai.out.size))
   clear ab
   go_simp
   refine hK.out _ _ trivial (fun hHeld=>?_)
   clear hK K
   try simp only [aP]
   refine rdy 5 ⟨none,.store 67 (.tmp 6) (.tmp 38),0,_,_,none⟩ rfl (fun K hK=>?_)
   obtain ⟨am,av,au,ao,⟨z0,o0⟩,⟨z1,o1⟩,⟨z2,o2⟩,⟨z3,o3⟩⟩:=NumOr.facts (NumOr.under aD ac)
   obtain ⟨V3,hN⟩:∃ W,W=((((V2.setCell ⟨g6,0,none⟩ (.int .u64 (ms:Int))).setCell ⟨g6,1,none⟩ (.int .u64 (mp:Int))).setCell ⟨g6,2,none⟩ (.int .u64 (my:Int))).setCell ⟨g6,3,none⟩ (.int .u64 (mj:Int))):=⟨_,rfl⟩
   go_simp
   rw [←hN]
   refine hK.out _ _ trivial (fun hHeld=>?_)
   clear hK K
   try simp only [aP]
   refine dn ?_
   rw [mb.out]
   exact ⟨rfl,rfl,rfl,(by rw [hN];exact holds_aside4 (jd.out.under ac (Holds.lt jd)) (k:=g6) (by have:=ak.out;omega) _ _ _ _),(by rw [hN];exact holds_aside4 (jc.out.under ac (Holds.lt jc)) (k:=g6) (by have:=ak.out;omega) _ _ _ _),(by rw [hN];exact below4 (bK.out.trans (ac.out.mono bK.out.size)) (by have:=ak.out;omega) _ _ _ _),(by rw [hN];exact ku.out.under (below4 (bK.out.trans (ac.out.mono bK.out.size)) (by have:=ak.out;omega) _ _ _ _)),(by rw [hN];exact NumOr.aside4 (NumOr.under iC ac) aH _ _ _ _),(by rw [hN];exact NumOr.aside4 (NumOr.under ir ac) aJ _ _ _ _),aV,aW,(by rw [hN];exact NumOr.aside4 (NumOr.under im ac) aG _ _ _ _),bu,(by rw [hN];exact NumOr.set (NumOr.under aD ac) cM),aH,aJ,aG,ak⟩
  refine AllReadyH.cons (o:=⟨some 36,.load 67 (.tmp 6),67,_,_,none⟩) rfl (fun K hK=>?_) AllReadyH.nil
  go_simp
  refine hK.out _ _ trivial (fun hHeld=>?_)
  clear hK K
  try simp only [aP]
  refine wpAnyH_ready (rs:=[0,1]) (by kernel_rfl) (by simp) ?_
  refine AllReadyH.cons (o:=⟨some 34,.load 67 (.tmp 6),67,_,_,none⟩) rfl (fun K hK=>?_) ?_
  ·go_simp
   refine hK.out _ _ trivial (fun hHeld=>?_)
   clear hK K
   try simp only [aP]
   refine rdy 1 ⟨some 35,.load 67 (.tmp 6),67,_,_,none⟩ rfl (fun K hK=>?_)
   go_simp
   refine hK.out _ _ trivial (fun hHeld=>?_)
   clear hK K
   try simp only [aP]
   refine rdy 3 ⟨some 37,.call ⟨ .value (.func 57),#[.tmp 35,.tmp 36],#[67,67]⟩,67,_,_,none⟩ rfl (fun K hK=>?_)
   go_simp
   refine (addE V (jf.out.under aw) a1 a1 aX aX (by rw [←mH.out];exact je.out)).mono ?_
   rintro e V1 ⟨rfl,ab⟩
   have ai:=lH (aw.out.trans (ab.mono aw.out.size))
   obtain ⟨r0,r1,r2,r3⟩:=(NumOr.under aD ai).cells aX.out
   clear ab
   go_simp
   refine hK.out _ _ trivial (fun hHeld=>?_)
   clear hK K
   try simp only [aP]
   refine rdy 4 ⟨some 38,.call ⟨ .value (.func 57),#[.tmp 34,.tmp 37],#[67,67]⟩,67,_,_,none⟩ rfl (fun K hK=>?_)
   go_simp
   refine (addE V1 (jf.out.under ai) a1 a2 aX je (by rw [←nc.out];exact cM.out)).mono ?_
   rintro e V2 ⟨rfl,ab⟩
   have ac:=lH (ai.out.trans (ab.mono ai.out.size))
   clear ab
   go_simp
   refine hK.out _ _ trivial (fun hHeld=>?_)
   clear hK K
   try simp only [aP]
   refine rdy 5 ⟨none,.store 67 (.tmp 6) (.tmp 38),0,_,_,none⟩ rfl (fun K hK=>?_)
   obtain ⟨am,av,au,ao,⟨z0,o0⟩,⟨z1,o1⟩,⟨z2,o2⟩,⟨z3,o3⟩⟩:=NumOr.facts (NumOr.under aD ac)
   obtain ⟨V3,hN⟩:∃ W,W=((((V2.setCell ⟨g6,0,none⟩ (.int .u64 (ms:Int))).setCell ⟨g6,1,none⟩ (.int .u64 (mp:Int))).setCell ⟨g6,2,none⟩ (.int .u64 (my:Int))).setCell ⟨g6,3,none⟩ (.int .u64 (mj:Int))):=⟨_,rfl⟩
   go_simp
   rw [←hN]
   refine hK.out _ _ trivial (fun hHeld=>?_)
   clear hK K
   try simp only [aP]
   refine dn ?_
   rw [mb.out]
   exact ⟨rfl,rfl,rfl,(by rw [hN];exact holds_aside4 (jd.out.under ac (Holds.lt jd)) (k:=g6) (by have:=ak.out;omega) _ _ _ _),(by rw [hN];exact holds_aside4 (jc.out.under ac (Holds.lt jc)) (k:=g6) (by have:=ak.out;omega) _ _ _ _),(by rw [hN];exact below4 (bK.out.trans (ac.out.mono bK.out.size)) (by have:=ak.out;omega) _ _ _ _),(by rw [hN];exact ku.out.under (below4 (bK.out.trans (ac.out.mono bK.out.size)) (by have:=ak.out;omega) _ _ _ _)),(by rw [hN];exact NumOr.aside4 (NumOr.under iC ac) aH _ _ _ _),(by rw [hN];exact NumOr.aside4 (NumOr.under ir ac) aJ _ _ _ _),aV,aW,(by rw [hN];exact NumOr.aside4 (NumOr.under im ac) aG _ _ _ _),bu,(by rw [hN];exact NumOr.set (NumOr.under aD ac) cM),aH,aJ,aG,ak⟩
  refine AllReadyH.cons (o:=⟨some 35,.load 67 (.tmp 6),67,_,_,none⟩) rfl (fun K hK=>?_) AllReadyH.nil
  go_simp
  refine hK.out _ _ trivial (fun hHeld=>?_)
  clear hK K
  try simp only [aP]
  refine wpAnyH_ready (rs:=[0,3]) (by kernel_rfl) (by simp) ?_
  refine AllReadyH.cons (o:=⟨some 34,.load 67 (.tmp 6),67,_,_,none⟩) rfl (fun K hK=>?_) ?_
  ·go_simp
   refine hK.out _ _ trivial (fun hHeld=>?_)
   clear hK K
   try simp only [aP]
   refine rdy 3 ⟨some 37,.call ⟨ .value (.func 57),#[.tmp 35,.tmp 36],#[67,67]⟩,67,_,_,none⟩ rfl (fun K hK=>?_)
   go_simp
   refine (addE V (jf.out.under aw) a1 a1 aX aX (by rw [←mH.out];exact je.out)).mono ?_
   rintro e V1 ⟨rfl,ab⟩
   have ai:=lH (aw.out.trans (ab.mono aw.out.size))
   obtain ⟨r0,r1,r2,r3⟩:=(NumOr.under aD ai).cells aX.out
   clear ab
   go_simp
   refine hK.out _ _ trivial (fun hHeld=>?_)
   clear hK K
   try simp only [aP]
   refine rdy 4 ⟨some 38,.call ⟨ .value (.func 57),#[.tmp 34,.tmp 37],#[67,67]⟩,67,_,_,none⟩ rfl (fun K hK=>?_)
   go_simp
   refine (addE V1 (jf.out.under ai) a1 a2 aX je (by rw [←nc.out];exact cM.out)).mono ?_
   rintro e V2 ⟨rfl,ab⟩
   have ac:=lH (ai.out.trans (ab.mono ai.out.size))
   clear ab
   go_simp
   refine hK.out _ _ trivial (fun hHeld=>?_)
   clear hK K
   try simp only [aP]
   refine rdy 5 ⟨none,.store 67 (.tmp 6) (.tmp 38),0,_,_,none⟩ rfl (fun K hK=>?_)
   obtain ⟨am,av,au,ao,⟨z0,o0⟩,⟨z1,o1⟩,⟨z2,o2⟩,⟨z3,o3⟩⟩:=NumOr.facts (NumOr.under aD ac)
   obtain ⟨V3,hN⟩:∃ W,W=((((V2.setCell ⟨g6,0,none⟩ (.int .u64 (ms:Int))).setCell ⟨g6,1,none⟩ (.int .u64 (mp:Int))).setCell ⟨g6,2,none⟩ (.int .u64 (my:Int))).setCell ⟨g6,3,none⟩ (.int .u64 (mj:Int))):=⟨_,rfl⟩
   go_simp
   rw [←hN]
   refine hK.out _ _ trivial (fun hHeld=>?_)
   clear hK K
   try simp only [aP]
   refine dn ?_
   rw [mb.out]
   exact ⟨rfl,rfl,rfl,(by rw [hN];exact holds_aside4 (jd.out.under ac (Holds.lt jd)) (k:=g6) (by have:=ak.out;omega) _ _ _ _),(by rw [hN];exact holds_aside4 (jc.out.under ac (Holds.lt jc)) (k:=g6) (by have:=ak.out;omega) _ _ _ _),(by rw [hN];exact below4 (bK.out.trans (ac.out.mono bK.out.size)) (by have:=ak.out;omega) _ _ _ _),(by rw [hN];exact ku.out.under (below4 (bK.out.trans (ac.out.mono bK.out.size)) (by have:=ak.out;omega) _ _ _ _)),(by rw [hN];exact NumOr.aside4 (NumOr.under iC ac) aH _ _ _ _),(by rw [hN];exact NumOr.aside4 (NumOr.under ir ac) aJ _ _ _ _),aV,aW,(by rw [hN];exact NumOr.aside4 (NumOr.under im ac) aG _ _ _ _),bu,(by rw [hN];exact NumOr.set (NumOr.under aD ac) cM),aH,aJ,aG,ak⟩
  refine AllReadyH.cons (o:=⟨some 37,.call ⟨ .value (.func 57),#[.tmp 35,.tmp 36],#[67,67]⟩,67,_,_,none⟩) rfl (fun K hK=>?_) AllReadyH.nil
  go_simp
  refine (addE V (jf.out.under aw) a1 a1 aX aX (by rw [←mH.out];exact je.out)).mono ?_
  rintro e V1 ⟨rfl,ab⟩
  have ai:=lH (aw.out.trans (ab.mono aw.out.size))
  obtain ⟨r0,r1,r2,r3⟩:=(NumOr.under aD ai).cells aX.out
  clear ab
  go_simp
  refine hK.out _ _ trivial (fun hHeld=>?_)
  clear hK K
  try simp only [aP]
  refine rdy 0 ⟨some 34,.load 67 (.tmp 6),67,_,_,none⟩ rfl (fun K hK=>?_)
  go_simp
  refine hK.out _ _ trivial (fun hHeld=>?_)
  clear hK K
  try simp only [aP]
  refine rdy 4 ⟨some 38,.call ⟨ .value (.func 57),#[.tmp 34,.tmp 37],#[67,67]⟩,67,_,_,none⟩ rfl (fun K hK=>?_)
  go_simp
  refine (addE V1 (jf.out.under ai) a1 a2 aX je (by rw [←nc.out];exact cM.out)).mono ?_
  rintro e V2 ⟨rfl,ab⟩
  have ac:=lH (ai.out.trans (ab.mono ai.out.size))
  clear ab
  go_simp
  refine hK.out _ _ trivial (fun hHeld=>?_)
  clear hK K
  try simp only [aP]
  refine rdy 5 ⟨none,.store 67 (.tmp 6) (.tmp 38),0,_,_,none⟩ rfl (fun K hK=>?_)
  obtain ⟨am,av,au,ao,⟨z0,o0⟩,⟨z1,o1⟩,⟨z2,o2⟩,⟨z3,o3⟩⟩:=NumOr.facts (NumOr.under aD ac)
  obtain ⟨V3,hN⟩:∃ W,W=((((V2.setCell ⟨g6,0,none⟩ (.int .u64 (ms:Int))).setCell ⟨g6,1,none⟩ (.int .u64 (mp:Int))).setCell ⟨g6,2,none⟩ (.int .u64 (my:Int))).setCell ⟨g6,3,none⟩ (.int .u64 (mj:Int))):=⟨_,rfl⟩
  go_simp
  rw [←hN]
  refine hK.out _ _ trivial (fun hHeld=>?_)
  clear hK K
  try simp only [aP]
  refine dn ?_
  rw [mb.out]
  exact ⟨rfl,rfl,rfl,(by rw [hN];exact holds_aside4 (jd.out.under ac (Holds.lt jd)) (k:=g6) (by have:=ak.out;omega) _ _ _ _),(by rw [hN];exact holds_aside4 (jc.out.under ac (Holds.lt jc)) (k:=g6) (by have:=ak.out;omega) _ _ _ _),(by rw [hN];exact below4 (bK.out.trans (ac.out.mono bK.out.size)) (by have:=ak.out;omega) _ _ _ _),(by rw [hN];exact ku.out.under (below4 (bK.out.trans (ac.out.mono bK.out.size)) (by have:=ak.out;omega) _ _ _ _)),(by rw [hN];exact NumOr.aside4 (NumOr.under iC ac) aH _ _ _ _),(by rw [hN];exact NumOr.aside4 (NumOr.under ir ac) aJ _ _ _ _),aV,aW,(by rw [hN];exact NumOr.aside4 (NumOr.under im ac) aG _ _ _ _),bu,(by rw [hN];exact NumOr.set (NumOr.under aD ac) cM),aH,aJ,aG,ak⟩
 rintro e a u4 hq
 rw [mb.out] at hq
 obtain ⟨rfl,bN,ee,dC⟩:=hq
 have i5:=lH dC
 clear dC mb ix
 obtain ⟨tm,df⟩:=a
 dsimp only at bN ee
 subst ee
 obtain ⟨U,hU⟩:∃ U:Nat→Value,∀ i,tm.getD i undef=U i:=⟨_,fun _=>rfl⟩
 simp only [tG,hU] at bN
 clear hU
 subst bN
 go_step
 go_step
 (repeat (first | (apply wp_seq_k;intro _ _) | apply wp_block))
 obtain ⟨tE,pF⟩:∃ Q:Exit→Act→World→Prop,Hid (Q=fun e a W=>e = .normal∧∃ (g7:Nat),a.tmps=#[tG a 0,.pointer (some ⟨w.heap.size,0,none⟩),.pointer (some ⟨w.heap.size+1,0,none⟩),.pointer (some ⟨g3,0,none⟩),.pointer (some ⟨g4,0,none⟩),.pointer (some ⟨g5,0,none⟩),.pointer (some ⟨g6,0,none⟩),.pointer (some ⟨g7,0,none⟩),tG a 8,tG a 9,tG a 10,tG a 11,tG a 12,tG a 13,tG a 14,tG a 15,tG a 16,tG a 17,tG a 18,tG a 19,tG a 20,tG a 21,tG a 22,tG a 23,tG a 24,tG a 25,tG a 26,tG a 27,tG a 28,tG a 29,tG a 30,tG a 31,tG a 32,tG a 33,tG a 34,tG a 35,tG a 36,tG a 37,tG a 38,tG a 39,tG a 40,tG a 41,tG a 42,tG a 43,tG a 44,tG a 45,tG a 46,tG a 47,tG a 48,tG a 49,tG a 50,tG a 51,tG a 52,tG a 53,tG a 54,tG a 55,tG a 56,tG a 57,tG a 58,tG a 59,tG a 60,tG a 61,tG a 62,tG a 63,tG a 64,tG a 65,tG a 66,tG a 67,tG a 68,tG a 69,tG a 70,tG a 71,tG a 72,tG a 73,tG a 74]∧a.defers=[]∧((Holds W w.heap.size 69 #[.int .u64 (x0:Int),.int .u64 (x1:Int),.int .u64 (x2:Int),.int .u64 (x3:Int),.int .u64 (y0:Int),.int .u64 (y1:Int),.int .u64 (y2:Int),.int .u64 (y3:Int),.int .u64 (z0:Int),.int .u64 (z1:Int),.int .u64 (z2:Int),.int .u64 (z3:Int)])∧(Holds W (w.heap.size+1) 69 #[.int .u64 0,.int .u64 0,.int .u64 0,.int .u64 0,.int .u64 0,.int .u64 0,.int .u64 0,.int .u64 0,.int .u64 0,.int .u64 0,.int .u64 0,.int .u64 0])∧(Below w.heap.size w W)∧(CMet W)∧(NumOr W g3 (some (en zz)))∧(NumOr W g4 (some (en yy)))∧(w.heap.size+1<g3)∧(w.heap.size+1<g4)∧(NumOr W g5 (some (en fm)))∧(w.heap.size+1<g5)∧(NumOr W g6 (some (en a3)))∧(g3≠g6)∧(g4≠g6)∧(g5≠g6)∧(w.heap.size+1<g6))∧(NumOr W g7 (some (en fo)))∧(w.heap.size+1<g7)):=⟨_,lH rfl⟩
 refine Code.wp_mono (Q:=tE) ?_ ?_
 rotate_left 1
 ·have ri:=lH (i5.out.1)
  have qG:=lH (i5.out.2.1)
  have qY:=lH (i5.out.2.2.1)
  have qn:=lH (i5.out.2.2.2.1)
  have pG:=lH (i5.out.2.2.2.2.1)
  have pY:=lH (i5.out.2.2.2.2.2.1)
  have aV:=lH (i5.out.2.2.2.2.2.2.1)
  have aW:=lH (i5.out.2.2.2.2.2.2.2.1)
  have od:=lH (i5.out.2.2.2.2.2.2.2.2.1)
  have bu:=lH (i5.out.2.2.2.2.2.2.2.2.2.1)
  have qr:=lH (i5.out.2.2.2.2.2.2.2.2.2.2.1)
  have aH:=lH (i5.out.2.2.2.2.2.2.2.2.2.2.2.1)
  have aJ:=lH (i5.out.2.2.2.2.2.2.2.2.2.2.2.2.1)
  have aG:=lH (i5.out.2.2.2.2.2.2.2.2.2.2.2.2.2.1)
  have ak:=lH (i5.out.2.2.2.2.2.2.2.2.2.2.2.2.2.2)
  have sY:=lH (FV.out.2.2.2.2.2.2.2.2.2.2.2.2.1)
  have rK:=lH (FV.out.2.2.2.2.2.2.2.2.2.2.2.2.2.1)
  have lQ:=lH (FV.out.2.2.2.2.2.2.2.2.2.2.2.2.2.2.2.2.2.2.2.2.2.2.2.2.2.2.2.2.2.2.1)
  have qK:=lH (FV.out.2.2.2.2.2.2.2.2.2.2.2.2.2.2.2.2.2.2.2.2.2.2.2.2.2.2.2.2.2.2.2.2.2.2.2.2.1)
  have lk:=lH (FV.out.2.2.2.2.2.2.2.2.2.2.2.2.2.2.2.2.2.2.2.2.2.2.2.2.2.2.2.2.2.2.2.2.2.2.2.2.2.1)
  clear i5 FV
  obtain ⟨rE,sM,tj,r8⟩:=od.out.cells lQ.out
  go_wp2_with fail
  have bW:Below u4.heap.size u4 u4:=Below.refl _ _
  refine (twiceE u4 (qn.out.under bW) fm lQ (by rw [←sY.out];exact qK.out)).mono ?_
  rintro e qm ⟨rfl,ab⟩
  have dr:=bW.trans (ab.mono bW.size)
  clear ab bW
  clear rE sM tj r8
  go_wp2_with fail
  refine (twiceE qm (qn.out.under dr) t1 qK (by rw [←rK.out];exact lk.out)).mono ?_
  rintro e mo ⟨rfl,ab⟩
  have nU:=dr.trans (ab.mono dr.size)
  clear ab dr
  go_wp2_with fail
  have dl:Below u4.heap.size u4 (mo.alloc (.cells #[.int .u64 (p_:Int),.int .u64 (qk:Int),.int .u64 (qh:Int),.int .u64 (pX:Int)] 67)):=nU.alloc nU.size _
  have kM:NumOr (mo.alloc (.cells #[.int .u64 (p_:Int),.int .u64 (qk:Int),.int .u64 (qh:Int),.int .u64 (pX:Int)] 67)) mo.heap.size (some (en fo)):=by
   show Holds _ _ _ (nums .u64 (nm (en fo)))
   rw [nv_of lk.out]
   exact Holds.fresh _ _ _
  rw [pF.out]
  exact ⟨rfl,mo.heap.size,rfl,rfl,⟨ri.out.under dl (Holds.lt ri),qG.out.under dl (Holds.lt qG),qY.out.trans (dl.mono qY.out.size),qn.out.under dl,NumOr.under pG dl,NumOr.under pY dl,aV,aW,NumOr.under od dl,bu,NumOr.under qr dl,aH,aJ,aG,ak⟩,kM,(by have h1:=Holds.lt qG.out;have h2:=nU.size;omega)⟩
 rintro e a u5 hq
 rw [pF.out] at hq
 obtain ⟨rfl,g7,bN,ee,dC⟩:=hq
 have gr:=lH dC
 clear dC pF i5
 obtain ⟨tm,df⟩:=a
 dsimp only at bN ee
 subst ee
 obtain ⟨U,hU⟩:∃ U:Nat→Value,∀ i,tm.getD i undef=U i:=⟨_,fun _=>rfl⟩
 simp only [tG,hU] at bN
 clear hU
 subst bN
 go_step
 go_step
 (repeat (first | (apply wp_seq_k;intro _ _) | apply wp_block))
 obtain ⟨rN,qp⟩:∃ Q:Exit→Act→World→Prop,Hid (Q=fun e a W=>e = .normal∧∃ (g8:Nat),a.tmps=#[tG a 0,.pointer (some ⟨w.heap.size,0,none⟩),.pointer (some ⟨w.heap.size+1,0,none⟩),.pointer (some ⟨g3,0,none⟩),.pointer (some ⟨g4,0,none⟩),.pointer (some ⟨g5,0,none⟩),.pointer (some ⟨g6,0,none⟩),.pointer (some ⟨g7,0,none⟩),.pointer (some ⟨g8,0,none⟩),tG a 9,tG a 10,tG a 11,tG a 12,tG a 13,tG a 14,tG a 15,tG a 16,tG a 17,tG a 18,tG a 19,tG a 20,tG a 21,tG a 22,tG a 23,tG a 24,tG a 25,tG a 26,tG a 27,tG a 28,tG a 29,tG a 30,tG a 31,tG a 32,tG a 33,tG a 34,tG a 35,tG a 36,tG a 37,tG a 38,tG a 39,tG a 40,tG a 41,tG a 42,tG a 43,tG a 44,tG a 45,tG a 46,tG a 47,tG a 48,tG a 49,tG a 50,tG a 51,tG a 52,tG a 53,tG a 54,tG a 55,tG a 56,tG a 57,tG a 58,tG a 59,tG a 60,tG a 61,tG a 62,tG a 63,tG a 64,tG a 65,tG a 66,tG a 67,tG a 68,tG a 69,tG a 70,tG a 71,tG a 72,tG a 73,tG a 74]∧a.defers=[]∧(((Holds W w.heap.size 69 #[.int .u64 (x0:Int),.int .u64 (x1:Int),.int .u64 (x2:Int),.int .u64 (x3:Int),.int .u64 (y0:Int),.int .u64 (y1:Int),.int .u64 (y2:Int),.int .u64 (y3:Int),.int .u64 (z0:Int),.int .u64 (z1:Int),.int .u64 (z2:Int),.int .u64 (z3:Int)])∧(Holds W (w.heap.size+1) 69 #[.int .u64 0,.int .u64 0,.int .u64 0,.int .u64 0,.int .u64 0,.int .u64 0,.int .u64 0,.int .u64 0,.int .u64 0,.int .u64 0,.int .u64 0,.int .u64 0])∧(Below w.heap.size w W)∧(CMet W)∧(NumOr W g3 (some (en zz)))∧(NumOr W g4 (some (en yy)))∧(w.heap.size+1<g3)∧(w.heap.size+1<g4)∧(NumOr W g5 (some (en fm)))∧(w.heap.size+1<g5)∧(NumOr W g6 (some (en a3)))∧(g3≠g6)∧(g4≠g6)∧(g5≠g6)∧(w.heap.size+1<g6))∧(NumOr W g7 (some (en fo)))∧(w.heap.size+1<g7))∧(NumOr W g8 (some (en yz)))∧(w.heap.size+1<g8)):=⟨_,lH rfl⟩
 refine Code.wp_mono (Q:=rN) ?_ ?_
 rotate_left 1
 ·have me:=lH (gr.out.1.1)
  have pE:=lH (gr.out.1.2.1)
  have qP:=lH (gr.out.1.2.2.1)
  have rl:=lH (gr.out.1.2.2.2.1)
  have pU:=lH (gr.out.1.2.2.2.2.1)
  have pH:=lH (gr.out.1.2.2.2.2.2.1)
  have aV:=lH (gr.out.1.2.2.2.2.2.2.1)
  have aW:=lH (gr.out.1.2.2.2.2.2.2.2.1)
  have qD:=lH (gr.out.1.2.2.2.2.2.2.2.2.1)
  have bu:=lH (gr.out.1.2.2.2.2.2.2.2.2.2.1)
  have pJ:=lH (gr.out.1.2.2.2.2.2.2.2.2.2.2.1)
  have aH:=lH (gr.out.1.2.2.2.2.2.2.2.2.2.2.2.1)
  have aJ:=lH (gr.out.1.2.2.2.2.2.2.2.2.2.2.2.2.1)
  have aG:=lH (gr.out.1.2.2.2.2.2.2.2.2.2.2.2.2.2.1)
  have ak:=lH (gr.out.1.2.2.2.2.2.2.2.2.2.2.2.2.2.2)
  have pR:=lH (gr.out.2.1)
  have kT:=lH (gr.out.2.2)
  have Hy:=lH (FV.out.2.2.1)
  have Hz:=lH (FV.out.2.2.2.1)
  have rZ:=lH (FV.out.2.2.2.2.2.2.2.2.2.2.2.2.2.2.1)
  have nQ:=lH (FV.out.2.2.2.2.2.2.2.2.2.2.2.2.2.2.2.2.2.2.2.2.2.2.2.2.2.2.2.2.2.2.2.2.2.2.2.2.2.2.1)
  clear gr FV
  have k4:=me.out.cell 4
  have k5:=me.out.cell 5
  have k6:=me.out.cell 6
  have k7:=me.out.cell 7
  have k8:=me.out.cell 8
  have k9:=me.out.cell 9
  have qt:=me.out.cell 10
  have qg:=me.out.cell 11
  go_wp2_with fail
  have bW:Below u5.heap.size u5 u5:=Below.refl _ _
  refine (addE u5 (rl.out.under bW) j.y j.z Hy Hz (by rw [←rZ.out];exact nQ.out)).mono ?_
  rintro e mq ⟨rfl,ab⟩
  have dr:=bW.trans (ab.mono bW.size)
  clear ab bW
  clear k4 k5 k6 k7 k8 k9 qt qg
  go_wp2_with fail
  have dl:Below u5.heap.size u5 (mq.alloc (.cells #[.int .u64 (pI:Int),.int .u64 (qE:Int),.int .u64 (qe:Int),.int .u64 (pQ:Int)] 67)):=dr.alloc dr.size _
  have kM:NumOr (mq.alloc (.cells #[.int .u64 (pI:Int),.int .u64 (qE:Int),.int .u64 (qe:Int),.int .u64 (pQ:Int)] 67)) mq.heap.size (some (en yz)):=by
   show Holds _ _ _ (nums .u64 (nm (en yz)))
   rw [nv_of nQ.out]
   exact Holds.fresh _ _ _
  rw [qp.out]
  exact ⟨rfl,mq.heap.size,rfl,rfl,⟨⟨me.out.under dl (Holds.lt me),pE.out.under dl (Holds.lt pE),qP.out.trans (dl.mono qP.out.size),rl.out.under dl,NumOr.under pU dl,NumOr.under pH dl,aV,aW,NumOr.under qD dl,bu,NumOr.under pJ dl,aH,aJ,aG,ak⟩,NumOr.under pR dl,kT⟩,kM,(by have h1:=Holds.lt pE.out;have h2:=dr.size;omega)⟩
 rintro e a u6 hq
 rw [qp.out] at hq
 obtain ⟨rfl,g8,bN,ee,dC⟩:=hq
 have eX:=lH dC
 clear dC qp gr
 obtain ⟨tm,df⟩:=a
 dsimp only at bN ee
 subst ee
 obtain ⟨U,hU⟩:∃ U:Nat→Value,∀ i,tm.getD i undef=U i:=⟨_,fun _=>rfl⟩
 simp only [tG,hU] at bN
 clear hU
 subst bN
 go_step
 go_step
 (repeat (first | (apply wp_seq_k;intro _ _) | apply wp_block))
 obtain ⟨rY,nX⟩:∃ Q:Exit→Act→World→Prop,Hid (Q=fun e a W=>e = .normal∧∃ (g9:Nat),a.tmps=#[tG a 0,.pointer (some ⟨w.heap.size,0,none⟩),.pointer (some ⟨w.heap.size+1,0,none⟩),.pointer (some ⟨g3,0,none⟩),.pointer (some ⟨g4,0,none⟩),.pointer (some ⟨g5,0,none⟩),.pointer (some ⟨g6,0,none⟩),.pointer (some ⟨g7,0,none⟩),.pointer (some ⟨g8,0,none⟩),.pointer (some ⟨g9,0,none⟩),tG a 10,tG a 11,tG a 12,tG a 13,tG a 14,tG a 15,tG a 16,tG a 17,tG a 18,tG a 19,tG a 20,tG a 21,tG a 22,tG a 23,tG a 24,tG a 25,tG a 26,tG a 27,tG a 28,tG a 29,tG a 30,tG a 31,tG a 32,tG a 33,tG a 34,tG a 35,tG a 36,tG a 37,tG a 38,tG a 39,tG a 40,tG a 41,tG a 42,tG a 43,tG a 44,tG a 45,tG a 46,tG a 47,tG a 48,tG a 49,tG a 50,tG a 51,tG a 52,tG a 53,tG a 54,tG a 55,tG a 56,tG a 57,tG a 58,tG a 59,tG a 60,tG a 61,tG a 62,tG a 63,tG a 64,tG a 65,tG a 66,tG a 67,tG a 68,tG a 69,tG a 70,tG a 71,tG a 72,tG a 73,tG a 74]∧a.defers=[]∧((((Holds W w.heap.size 69 #[.int .u64 (x0:Int),.int .u64 (x1:Int),.int .u64 (x2:Int),.int .u64 (x3:Int),.int .u64 (y0:Int),.int .u64 (y1:Int),.int .u64 (y2:Int),.int .u64 (y3:Int),.int .u64 (z0:Int),.int .u64 (z1:Int),.int .u64 (z2:Int),.int .u64 (z3:Int)])∧(Holds W (w.heap.size+1) 69 #[.int .u64 0,.int .u64 0,.int .u64 0,.int .u64 0,.int .u64 0,.int .u64 0,.int .u64 0,.int .u64 0,.int .u64 0,.int .u64 0,.int .u64 0,.int .u64 0])∧(Below w.heap.size w W)∧(CMet W)∧(NumOr W g3 (some (en zz)))∧(NumOr W g4 (some (en yy)))∧(w.heap.size+1<g3)∧(w.heap.size+1<g4)∧(NumOr W g5 (some (en fm)))∧(w.heap.size+1<g5)∧(NumOr W g6 (some (en a3)))∧(g3≠g6)∧(g4≠g6)∧(g5≠g6)∧(w.heap.size+1<g6))∧(NumOr W g7 (some (en fo)))∧(w.heap.size+1<g7))∧(NumOr W g8 (some (en yz)))∧(w.heap.size+1<g8))∧(NumOr W g9 (some (en X)))∧(w.heap.size+1<g9)):=⟨_,lH rfl⟩
 refine Code.wp_mono (Q:=rY) ?_ ?_
 rotate_left 1
 ·have q_:=lH (eX.out.1.1.1)
  have n6:=lH (eX.out.1.1.2.1)
  have qT:=lH (eX.out.1.1.2.2.1)
  have mh:=lH (eX.out.1.1.2.2.2.1)
  have pC:=lH (eX.out.1.1.2.2.2.2.1)
  have qj:=lH (eX.out.1.1.2.2.2.2.2.1)
  have aV:=lH (eX.out.1.1.2.2.2.2.2.2.1)
  have aW:=lH (eX.out.1.1.2.2.2.2.2.2.2.1)
  have qs:=lH (eX.out.1.1.2.2.2.2.2.2.2.2.1)
  have bu:=lH (eX.out.1.1.2.2.2.2.2.2.2.2.2.1)
  have nA:=lH (eX.out.1.1.2.2.2.2.2.2.2.2.2.2.1)
  have aH:=lH (eX.out.1.1.2.2.2.2.2.2.2.2.2.2.2.1)
  have aJ:=lH (eX.out.1.1.2.2.2.2.2.2.2.2.2.2.2.2.1)
  have aG:=lH (eX.out.1.1.2.2.2.2.2.2.2.2.2.2.2.2.2.1)
  have ak:=lH (eX.out.1.1.2.2.2.2.2.2.2.2.2.2.2.2.2.2)
  have oy:=lH (eX.out.1.2.1)
  have kT:=lH (eX.out.1.2.2)
  have qf:=lH (eX.out.2.1)
  have kF:=lH (eX.out.2.2)
  have ro:=lH (FV.out.2.2.2.2.2.2.2.2.2.2.2.2.2.2.2.1)
  have qc:=lH (FV.out.2.2.2.2.2.2.2.2.2.2.2.2.2.2.2.2.1)
  have EX:=lH (FV.out.2.2.2.2.2.2.2.2.2.2.2.2.2.2.2.2.2.1)
  have cM:=lH (FV.out.2.2.2.2.2.2.2.2.2.2.2.2.2.2.2.2.2.2.2.2.2.2.2.2.2.2.2.2.2.2.2.2.2.2.2.1)
  have lk:=lH (FV.out.2.2.2.2.2.2.2.2.2.2.2.2.2.2.2.2.2.2.2.2.2.2.2.2.2.2.2.2.2.2.2.2.2.2.2.2.2.1)
  have n7:=lH (FV.out.2.2.2.2.2.2.2.2.2.2.2.2.2.2.2.2.2.2.2.2.2.2.2.2.2.2.2.2.2.2.2.2.2.2.2.2.2.2.2.1)
  have nP:=lH (FV.out.2.2.2.2.2.2.2.2.2.2.2.2.2.2.2.2.2.2.2.2.2.2.2.2.2.2.2.2.2.2.2.2.2.2.2.2.2.2.2.2.1)
  have HX:=lH (FV.out.2.2.2.2.2.2.2.2.2.2.2.2.2.2.2.2.2.2.2.2.2.2.2.2.2.2.2.2.2.2.2.2.2.2.2.2.2.2.2.2.2.1)
  clear eX FV
  have HF:Hid (∀ W,Below u6.heap.size u6 W→(((Holds W w.heap.size 69 #[.int .u64 (x0:Int),.int .u64 (x1:Int),.int .u64 (x2:Int),.int .u64 (x3:Int),.int .u64 (y0:Int),.int .u64 (y1:Int),.int .u64 (y2:Int),.int .u64 (y3:Int),.int .u64 (z0:Int),.int .u64 (z1:Int),.int .u64 (z2:Int),.int .u64 (z3:Int)])∧(Holds W (w.heap.size+1) 69 #[.int .u64 0,.int .u64 0,.int .u64 0,.int .u64 0,.int .u64 0,.int .u64 0,.int .u64 0,.int .u64 0,.int .u64 0,.int .u64 0,.int .u64 0,.int .u64 0])∧(Below w.heap.size w W)∧(CMet W)∧(NumOr W g3 (some (en zz)))∧(NumOr W g4 (some (en yy)))∧(w.heap.size+1<g3)∧(w.heap.size+1<g4)∧(NumOr W g5 (some (en fm)))∧(w.heap.size+1<g5)∧(NumOr W g6 (some (en a3)))∧(g3≠g6)∧(g4≠g6)∧(g5≠g6)∧(w.heap.size+1<g6))∧(NumOr W g7 (some (en fo)))∧(w.heap.size+1<g7))∧(NumOr W g8 (some (en yz)))∧(w.heap.size+1<g8)):=lH fun W h=>⟨⟨⟨q_.out.under h (Holds.lt q_),n6.out.under h (Holds.lt n6),qT.out.trans (h.mono qT.out.size),mh.out.under h,NumOr.under pC h,NumOr.under qj h,aV,aW,NumOr.under qs h,bu,NumOr.under nA h,aH,aJ,aG,ak⟩,NumOr.under oy h,kT⟩,NumOr.under qf h,kF⟩
  refine wp_region_noPanic ?_
  refine wp_region_held_drew (S:=fun W=>Below u6.heap.size u6 W) (by kernel_rfl) ((Below.refl _ u6).drew) (fun hHeld=>?_)
  obtain ⟨V,hV⟩:∃ W,W=u6.drew:=⟨_,rfl⟩
  rw [←hV]
  have aw:Hid (Below u6.heap.size u6 V):=lH (by rw [hV];exact (Below.refl _ u6).drew)
  replace hHeld:(fun W=>Below u6.heap.size u6 W) V:=aw.out
  clear hV
  refine tk 0 ⟨some 47,.load 67 (.tmp 6),67,_,_,none⟩ ?_ rfl ?_ hHeld ?_
  rotate_left 1
  ·(intro W hW;have bO:=(NumOr.under nA.out hW).cells cM.out;obtain ⟨q0,q1,q2,q3⟩:=bO;(try dsimp only at hW);go_simp;try with_reducible rfl)
  try simp only [aP]
  refine tk 1 ⟨some 48,.load 67 (.tmp 6),67,_,_,none⟩ ?_ rfl ?_ hHeld ?_
  rotate_left 1
  ·(intro W hW;have bO:=(NumOr.under nA.out hW).cells cM.out;obtain ⟨q0,q1,q2,q3⟩:=bO;(try dsimp only at hW);go_simp;try with_reducible rfl)
  try simp only [aP]
  refine tk 3 ⟨some 50,.load 67 (.tmp 7),67,_,_,none⟩ ?_ rfl ?_ hHeld ?_
  rotate_left 1
  ·(intro W hW;have bO:=(NumOr.under oy.out hW).cells lk.out;obtain ⟨q0,q1,q2,q3⟩:=bO;(try dsimp only at hW);go_simp;try with_reducible rfl)
  try simp only [aP]
  refine wpAnyH_ready (rs:=[2,6]) (by kernel_rfl) (by simp) ?_
  refine AllReadyH.cons (o:=⟨some 49,.call ⟨ .value (.func 56),#[.tmp 47,.tmp 48],#[67,67]⟩,67,_,_,none⟩) rfl (fun K hK=>?_) ?_
  go_simp
  refine (mulE V (mh.out.under aw) a3 a3 cM cM (by rw [←ro.out];exact n7.out)).mono ?_
  rintro e V2 ⟨rfl,ab⟩
  have ac:=lH (aw.out.trans (ab.mono aw.out.size))
  clear ab
  clear aw
  go_simp
  refine hK.out _ _ (ac.out) (fun hHeld=>?_)
  clear hK K
  try simp only [aP]
  refine wpAnyH_ready (rs:=[4,6]) (by kernel_rfl) (by simp) ?_
  refine AllReadyH.cons (o:=⟨some 51,.call ⟨ .value (.func 78),#[.tmp 50],#[67]⟩,67,_,_,none⟩) rfl (fun K hK=>?_) ?_
  go_simp
  refine (twiceE V2 (mh.out.under ac) fo lk (by rw [←qc.out];exact nP.out)).mono ?_
  rintro e pS ⟨rfl,ab⟩
  have cE:=lH (ac.out.trans (ab.mono ac.out.size))
  clear ab
  clear ac
  go_simp
  refine hK.out _ _ (cE.out) (fun hHeld=>?_)
  clear hK K
  try simp only [aP]
  refine wpAnyH_ready (rs:=[5,6]) (by kernel_rfl) (by simp) ?_
  refine AllReadyH.cons (o:=⟨some 52,.call ⟨ .value (.func 55),#[.tmp 49,.tmp 51],#[67,67]⟩,67,_,_,none⟩) rfl (fun K hK=>?_) ?_
  go_simp
  refine (subE pS (mh.out.under cE) aa ff n7 nP (by rw [←EX.out];exact HX.out)).mono ?_
  rintro e oj ⟨rfl,ab⟩
  have dX:=lH (cE.out.trans (ab.mono cE.out.size))
  clear ab
  clear cE
  go_simp
  refine hK.out _ _ (dX.out) (fun hHeld=>?_)
  clear hK K
  try simp only [aP]
  refine rdy 6 ⟨some 9,.alloc 67,0,_,_,none⟩ rfl (fun K hK=>?_)
  obtain ⟨ky,hN⟩:∃ W,W=oj.alloc (.cells #[.int .u64 0,.int .u64 0,.int .u64 0,.int .u64 0] 67):=⟨_,rfl⟩
  go_simp
  rw [←hN]
  obtain ⟨g9,hg⟩:∃ g,g=oj.heap.size:=⟨_,rfl⟩
  rw [←hg]
  have fZ:Hid (NumOr ky g9 none):=lH (by rw [hN,hg];exact NumOr.fresh _)
  have gV:=lH (by rw [hN];exact dX.out.alloc dX.out.size _:Below u6.heap.size u6 ky)
  have l4:Hid (u6.heap.size≤g9):=lH (by rw [hg];exact dX.out.size)
  clear hN hg
  have az:=lH (show w.heap.size+1<g9 from (by have h1:=Holds.lt n6.out;have h2:=l4.out;omega))
  clear dX
  refine hK.out _ _ (gV.out) (fun hHeld=>?_)
  clear hK K
  try simp only [aP]
  refine rdy 7 ⟨none,.store 67 (.tmp 9) (.tmp 52),0,_,_,none⟩ rfl (fun K hK=>?_)
  obtain ⟨am,av,au,ao,⟨z0,o0⟩,⟨z1,o1⟩,⟨z2,o2⟩,⟨z3,o3⟩⟩:=NumOr.facts fZ.out
  obtain ⟨kx,hN⟩:∃ W,W=((((ky.setCell ⟨g9,0,none⟩ (.int .u64 (X0:Int))).setCell ⟨g9,1,none⟩ (.int .u64 (X1:Int))).setCell ⟨g9,2,none⟩ (.int .u64 (X2:Int))).setCell ⟨g9,3,none⟩ (.int .u64 (X3:Int))):=⟨_,rfl⟩
  go_simp
  rw [←hN]
  have kz:Hid (NumOr kx g9 (some (en X))):=lH (by rw [hN];exact NumOr.set fZ HX)
  have ie:=lH (by rw [hN];exact below4 gV l4 _ _ _ _:Below u6.heap.size u6 kx)
  clear hN z0 o0 z1 o1 z2 o2 z3 o3 am av au ao
  clear gV fZ
  refine hK.out _ _ (ie.out) (fun hHeld=>?_)
  clear hK K
  try simp only [aP]
  refine dn ?_
  rw [nX.out]
  exact ⟨rfl,g9,rfl,rfl,HF _ ie,kz,az⟩
  refine AllReadyH.cons (o:=⟨some 9,.alloc 67,0,_,_,none⟩) rfl (fun K hK=>?_) AllReadyH.nil
  obtain ⟨nI,hN⟩:∃ W,W=pS.alloc (.cells #[.int .u64 0,.int .u64 0,.int .u64 0,.int .u64 0] 67):=⟨_,rfl⟩
  go_simp
  rw [←hN]
  obtain ⟨g9,hg⟩:∃ g,g=pS.heap.size:=⟨_,rfl⟩
  rw [←hg]
  have kC:Hid (NumOr nI g9 none):=lH (by rw [hN,hg];exact NumOr.fresh _)
  have dE:=lH (by rw [hN];exact cE.out.alloc cE.out.size _:Below u6.heap.size u6 nI)
  have l4:Hid (u6.heap.size≤g9):=lH (by rw [hg];exact cE.out.size)
  clear hN hg
  have az:=lH (show w.heap.size+1<g9 from (by have h1:=Holds.lt n6.out;have h2:=l4.out;omega))
  clear cE
  refine hK.out _ _ (dE.out) (fun hHeld=>?_)
  clear hK K
  try simp only [aP]
  refine rdy 5 ⟨some 52,.call ⟨ .value (.func 55),#[.tmp 49,.tmp 51],#[67,67]⟩,67,_,_,none⟩ rfl (fun K hK=>?_)
  go_simp
  refine (subE nI (mh.out.under dE) aa ff n7 nP (by rw [←EX.out];exact HX.out)).mono ?_
  rintro e mN ⟨rfl,ab⟩
  have h_:=lH (dE.out.trans (ab.mono dE.out.size))
  have gH:Hid (NumOr mN g9 none):=lH (NumOr.under kC ab)
  clear ab
  clear dE kC
  go_simp
  refine hK.out _ _ (h_.out) (fun hHeld=>?_)
  clear hK K
  try simp only [aP]
  refine rdy 7 ⟨none,.store 67 (.tmp 9) (.tmp 52),0,_,_,none⟩ rfl (fun K hK=>?_)
  obtain ⟨am,av,au,ao,⟨z0,o0⟩,⟨z1,o1⟩,⟨z2,o2⟩,⟨z3,o3⟩⟩:=NumOr.facts gH.out
  obtain ⟨lc,hN⟩:∃ W,W=((((mN.setCell ⟨g9,0,none⟩ (.int .u64 (X0:Int))).setCell ⟨g9,1,none⟩ (.int .u64 (X1:Int))).setCell ⟨g9,2,none⟩ (.int .u64 (X2:Int))).setCell ⟨g9,3,none⟩ (.int .u64 (X3:Int))):=⟨_,rfl⟩
  go_simp
  rw [←hN]
  have lO:Hid (NumOr lc g9 (some (en X))):=lH (by rw [hN];exact NumOr.set gH HX)
  have iy:=lH (by rw [hN];exact below4 h_ l4 _ _ _ _:Below u6.heap.size u6 lc)
  clear hN z0 o0 z1 o1 z2 o2 z3 o3 am av au ao
  clear h_ gH
  refine hK.out _ _ (iy.out) (fun hHeld=>?_)
  clear hK K
  try simp only [aP]
  refine dn ?_
  rw [nX.out]
  exact ⟨rfl,g9,rfl,rfl,HF _ iy,lO,az⟩
  refine AllReadyH.cons (o:=⟨some 9,.alloc 67,0,_,_,none⟩) rfl (fun K hK=>?_) AllReadyH.nil
  obtain ⟨qz,hN⟩:∃ W,W=V2.alloc (.cells #[.int .u64 0,.int .u64 0,.int .u64 0,.int .u64 0] 67):=⟨_,rfl⟩
  go_simp
  rw [←hN]
  obtain ⟨g9,hg⟩:∃ g,g=V2.heap.size:=⟨_,rfl⟩
  rw [←hg]
  have nf:Hid (NumOr qz g9 none):=lH (by rw [hN,hg];exact NumOr.fresh _)
  have iM:=lH (by rw [hN];exact ac.out.alloc ac.out.size _:Below u6.heap.size u6 qz)
  have l4:Hid (u6.heap.size≤g9):=lH (by rw [hg];exact ac.out.size)
  clear hN hg
  have az:=lH (show w.heap.size+1<g9 from (by have h1:=Holds.lt n6.out;have h2:=l4.out;omega))
  clear ac
  refine hK.out _ _ (iM.out) (fun hHeld=>?_)
  clear hK K
  try simp only [aP]
  refine rdy 4 ⟨some 51,.call ⟨ .value (.func 78),#[.tmp 50],#[67]⟩,67,_,_,none⟩ rfl (fun K hK=>?_)
  go_simp
  refine (twiceE qz (mh.out.under iM) fo lk (by rw [←qc.out];exact nP.out)).mono ?_
  rintro e oL ⟨rfl,ab⟩
  have dJ:=lH (iM.out.trans (ab.mono iM.out.size))
  have l7:Hid (NumOr oL g9 none):=lH (NumOr.under nf ab)
  clear ab
  clear iM nf
  go_simp
  refine hK.out _ _ (dJ.out) (fun hHeld=>?_)
  clear hK K
  try simp only [aP]
  refine rdy 5 ⟨some 52,.call ⟨ .value (.func 55),#[.tmp 49,.tmp 51],#[67,67]⟩,67,_,_,none⟩ rfl (fun K hK=>?_)
  go_simp
  refine (subE oL (mh.out.under dJ) aa ff n7 nP (by rw [←EX.out];exact HX.out)).mono ?_
  rintro e m6 ⟨rfl,ab⟩
  have gU:=lH (dJ.out.trans (ab.mono dJ.out.size))
  have ib:Hid (NumOr m6 g9 none):=lH (NumOr.under l7 ab)
  clear ab
  clear dJ l7
  go_simp
  refine hK.out _ _ (gU.out) (fun hHeld=>?_)
  clear hK K
  try simp only [aP]
  refine rdy 7 ⟨none,.store 67 (.tmp 9) (.tmp 52),0,_,_,none⟩ rfl (fun K hK=>?_)
  obtain ⟨am,av,au,ao,⟨z0,o0⟩,⟨z1,o1⟩,⟨z2,o2⟩,⟨z3,o3⟩⟩:=NumOr.facts ib.out
  obtain ⟨lh,hN⟩:∃ W,W=((((m6.setCell ⟨g9,0,none⟩ (.int .u64 (X0:Int))).setCell ⟨g9,1,none⟩ (.int .u64 (X1:Int))).setCell ⟨g9,2,none⟩ (.int .u64 (X2:Int))).setCell ⟨g9,3,none⟩ (.int .u64 (X3:Int))):=⟨_,rfl⟩
  go_simp
  rw [←hN]
  have kL:Hid (NumOr lh g9 (some (en X))):=lH (by rw [hN];exact NumOr.set ib HX)
  have iK:=lH (by rw [hN];exact below4 gU l4 _ _ _ _:Below u6.heap.size u6 lh)
  clear hN z0 o0 z1 o1 z2 o2 z3 o3 am av au ao
  clear gU ib
  refine hK.out _ _ (iK.out) (fun hHeld=>?_)
  clear hK K
  try simp only [aP]
  refine dn ?_
  rw [nX.out]
  exact ⟨rfl,g9,rfl,rfl,HF _ iK,kL,az⟩
  refine AllReadyH.cons (o:=⟨some 9,.alloc 67,0,_,_,none⟩) rfl (fun K hK=>?_) AllReadyH.nil
  obtain ⟨V6,hN⟩:∃ W,W=V.alloc (.cells #[.int .u64 0,.int .u64 0,.int .u64 0,.int .u64 0] 67):=⟨_,rfl⟩
  go_simp
  rw [←hN]
  obtain ⟨g9,hg⟩:∃ g,g=V.heap.size:=⟨_,rfl⟩
  rw [←hg]
  have oX:Hid (NumOr V6 g9 none):=lH (by rw [hN,hg];exact NumOr.fresh _)
  have kY:=lH (by rw [hN];exact aw.out.alloc aw.out.size _:Below u6.heap.size u6 V6)
  have l4:Hid (u6.heap.size≤g9):=lH (by rw [hg];exact aw.out.size)
  clear hN hg
  have az:=lH (show w.heap.size+1<g9 from (by have h1:=Holds.lt n6.out;have h2:=l4.out;omega))
  clear aw
  refine hK.out _ _ (kY.out) (fun hHeld=>?_)
  clear hK K
  try simp only [aP]
  refine rdy 2 ⟨some 49,.call ⟨ .value (.func 56),#[.tmp 47,.tmp 48],#[67,67]⟩,67,_,_,none⟩ rfl (fun K hK=>?_)
  go_simp
  refine (mulE V6 (mh.out.under kY) a3 a3 cM cM (by rw [←ro.out];exact n7.out)).mono ?_
  rintro e qL ⟨rfl,ab⟩
  have iQ:=lH (kY.out.trans (ab.mono kY.out.size))
  have mX:Hid (NumOr qL g9 none):=lH (NumOr.under oX ab)
  clear ab
  clear kY oX
  go_simp
  refine hK.out _ _ (iQ.out) (fun hHeld=>?_)
  clear hK K
  try simp only [aP]
  refine rdy 4 ⟨some 51,.call ⟨ .value (.func 78),#[.tmp 50],#[67]⟩,67,_,_,none⟩ rfl (fun K hK=>?_)
  go_simp
  refine (twiceE qL (mh.out.under iQ) fo lk (by rw [←qc.out];exact nP.out)).mono ?_
  rintro e oM ⟨rfl,ab⟩
  have dR:=lH (iQ.out.trans (ab.mono iQ.out.size))
  have lK:Hid (NumOr oM g9 none):=lH (NumOr.under mX ab)
  clear ab
  clear iQ mX
  go_simp
  refine hK.out _ _ (dR.out) (fun hHeld=>?_)
  clear hK K
  try simp only [aP]
  refine rdy 5 ⟨some 52,.call ⟨ .value (.func 55),#[.tmp 49,.tmp 51],#[67,67]⟩,67,_,_,none⟩ rfl (fun K hK=>?_)
  go_simp
  refine (subE oM (mh.out.under dR) aa ff n7 nP (by rw [←EX.out];exact HX.out)).mono ?_
  rintro e np ⟨rfl,ab⟩
  have f6:=lH (dR.out.trans (ab.mono dR.out.size))
  have gW:Hid (NumOr np g9 none):=lH (NumOr.under lK ab)
  clear ab
  clear dR lK
  go_simp
  refine hK.out _ _ (f6.out) (fun hHeld=>?_)
  clear hK K
  try simp only [aP]
  refine rdy 7 ⟨none,.store 67 (.tmp 9) (.tmp 52),0,_,_,none⟩ rfl (fun K hK=>?_)
  obtain ⟨am,av,au,ao,⟨z0,o0⟩,⟨z1,o1⟩,⟨z2,o2⟩,⟨z3,o3⟩⟩:=NumOr.facts gW.out
  obtain ⟨kN,hN⟩:∃ W,W=((((np.setCell ⟨g9,0,none⟩ (.int .u64 (X0:Int))).setCell ⟨g9,1,none⟩ (.int .u64 (X1:Int))).setCell ⟨g9,2,none⟩ (.int .u64 (X2:Int))).setCell ⟨g9,3,none⟩ (.int .u64 (X3:Int))):=⟨_,rfl⟩
  go_simp
  rw [←hN]
  have l6:Hid (NumOr kN g9 (some (en X))):=lH (by rw [hN];exact NumOr.set gW HX)
  have iT:=lH (by rw [hN];exact below4 f6 l4 _ _ _ _:Below u6.heap.size u6 kN)
  clear hN z0 o0 z1 o1 z2 o2 z3 o3 am av au ao
  clear f6 gW
  refine hK.out _ _ (iT.out) (fun hHeld=>?_)
  clear hK K
  try simp only [aP]
  refine dn ?_
  rw [nX.out]
  exact ⟨rfl,g9,rfl,rfl,HF _ iT,l6,az⟩
 rintro e a u7 hq
 rw [nX.out] at hq
 obtain ⟨rfl,g9,bN,ee,dC⟩:=hq
 have d7:=lH dC
 clear dC nX eX
 obtain ⟨tm,df⟩:=a
 dsimp only at bN ee
 subst ee
 obtain ⟨U,hU⟩:∃ U:Nat→Value,∀ i,tm.getD i undef=U i:=⟨_,fun _=>rfl⟩
 simp only [tG,hU] at bN
 clear hU
 subst bN
 go_step
 go_step
 (repeat (first | (apply wp_seq_k;intro _ _) | apply wp_block))
 obtain ⟨rM,mg⟩:∃ Q:Exit→Act→World→Prop,Hid (Q=fun e a W=>e = .normal∧∃ (ae:Nat),a.tmps=#[tG a 0,.pointer (some ⟨w.heap.size,0,none⟩),.pointer (some ⟨w.heap.size+1,0,none⟩),.pointer (some ⟨g3,0,none⟩),.pointer (some ⟨g4,0,none⟩),.pointer (some ⟨g5,0,none⟩),.pointer (some ⟨g6,0,none⟩),.pointer (some ⟨g7,0,none⟩),.pointer (some ⟨g8,0,none⟩),.pointer (some ⟨g9,0,none⟩),.pointer (some ⟨ae,0,none⟩),tG a 11,tG a 12,tG a 13,tG a 14,tG a 15,tG a 16,tG a 17,tG a 18,tG a 19,tG a 20,tG a 21,tG a 22,tG a 23,tG a 24,tG a 25,tG a 26,tG a 27,tG a 28,tG a 29,tG a 30,tG a 31,tG a 32,tG a 33,tG a 34,tG a 35,tG a 36,tG a 37,tG a 38,tG a 39,tG a 40,tG a 41,tG a 42,tG a 43,tG a 44,tG a 45,tG a 46,tG a 47,tG a 48,tG a 49,tG a 50,tG a 51,tG a 52,tG a 53,tG a 54,tG a 55,tG a 56,tG a 57,tG a 58,tG a 59,tG a 60,tG a 61,tG a 62,tG a 63,tG a 64,tG a 65,tG a 66,tG a 67,tG a 68,tG a 69,tG a 70,tG a 71,tG a 72,tG a 73,tG a 74]∧a.defers=[]∧(((((Holds W w.heap.size 69 #[.int .u64 (x0:Int),.int .u64 (x1:Int),.int .u64 (x2:Int),.int .u64 (x3:Int),.int .u64 (y0:Int),.int .u64 (y1:Int),.int .u64 (y2:Int),.int .u64 (y3:Int),.int .u64 (z0:Int),.int .u64 (z1:Int),.int .u64 (z2:Int),.int .u64 (z3:Int)])∧(Holds W (w.heap.size+1) 69 #[.int .u64 0,.int .u64 0,.int .u64 0,.int .u64 0,.int .u64 0,.int .u64 0,.int .u64 0,.int .u64 0,.int .u64 0,.int .u64 0,.int .u64 0,.int .u64 0])∧(Below w.heap.size w W)∧(CMet W)∧(NumOr W g3 (some (en zz)))∧(NumOr W g4 (some (en yy)))∧(w.heap.size+1<g3)∧(w.heap.size+1<g4)∧(NumOr W g5 (some (en fm)))∧(w.heap.size+1<g5)∧(NumOr W g6 (some (en a3)))∧(g3≠g6)∧(g4≠g6)∧(g5≠g6)∧(w.heap.size+1<g6))∧(NumOr W g7 (some (en fo)))∧(w.heap.size+1<g7))∧(NumOr W g8 (some (en yz)))∧(w.heap.size+1<g8))∧(NumOr W g9 (some (en X)))∧(w.heap.size+1<g9))∧(NumOr W ae (some (en Y)))∧(w.heap.size+1<ae)):=⟨_,lH rfl⟩
 refine Code.wp_mono (Q:=rM) ?_ ?_
 rotate_left 1
 ·have qQ:=lH (d7.out.1.1.1.1)
  have mf:=lH (d7.out.1.1.1.2.1)
  have qO:=lH (d7.out.1.1.1.2.2.1)
  have bv:=lH (d7.out.1.1.1.2.2.2.1)
  have pO:=lH (d7.out.1.1.1.2.2.2.2.1)
  have nD:=lH (d7.out.1.1.1.2.2.2.2.2.1)
  have aV:=lH (d7.out.1.1.1.2.2.2.2.2.2.1)
  have aW:=lH (d7.out.1.1.1.2.2.2.2.2.2.2.1)
  have qA:=lH (d7.out.1.1.1.2.2.2.2.2.2.2.2.1)
  have bu:=lH (d7.out.1.1.1.2.2.2.2.2.2.2.2.2.1)
  have ot:=lH (d7.out.1.1.1.2.2.2.2.2.2.2.2.2.2.1)
  have aH:=lH (d7.out.1.1.1.2.2.2.2.2.2.2.2.2.2.2.1)
  have aJ:=lH (d7.out.1.1.1.2.2.2.2.2.2.2.2.2.2.2.2.1)
  have aG:=lH (d7.out.1.1.1.2.2.2.2.2.2.2.2.2.2.2.2.2.1)
  have ak:=lH (d7.out.1.1.1.2.2.2.2.2.2.2.2.2.2.2.2.2.2)
  have oH:=lH (d7.out.1.1.2.1)
  have kT:=lH (d7.out.1.1.2.2)
  have qv:=lH (d7.out.1.2.1)
  have kF:=lH (d7.out.1.2.2)
  have oA:=lH (d7.out.2.1)
  have nE:=lH (d7.out.2.2)
  have qJ:=lH (FV.out.2.2.2.2.2.2.2.2.2.2.2.2.2.2.2.2.2.2.1)
  have qy:=lH (FV.out.2.2.2.2.2.2.2.2.2.2.2.2.2.2.2.2.2.2.2.1)
  have ph:=lH (FV.out.2.2.2.2.2.2.2.2.2.2.2.2.2.2.2.2.2.2.2.2.1)
  have ou:=lH (FV.out.2.2.2.2.2.2.2.2.2.2.2.2.2.2.2.2.2.2.2.2.2.1)
  have nZ:=lH (FV.out.2.2.2.2.2.2.2.2.2.2.2.2.2.2.2.2.2.2.2.2.2.2.1)
  have nG:=lH (FV.out.2.2.2.2.2.2.2.2.2.2.2.2.2.2.2.2.2.2.2.2.2.2.2.1)
  have EY:=lH (FV.out.2.2.2.2.2.2.2.2.2.2.2.2.2.2.2.2.2.2.2.2.2.2.2.2.1)
  have bc:=lH (FV.out.2.2.2.2.2.2.2.2.2.2.2.2.2.2.2.2.2.2.2.2.2.2.2.2.2.2.2.2.2.1)
  have cM:=lH (FV.out.2.2.2.2.2.2.2.2.2.2.2.2.2.2.2.2.2.2.2.2.2.2.2.2.2.2.2.2.2.2.2.2.2.2.2.1)
  have lk:=lH (FV.out.2.2.2.2.2.2.2.2.2.2.2.2.2.2.2.2.2.2.2.2.2.2.2.2.2.2.2.2.2.2.2.2.2.2.2.2.2.1)
  have HX:=lH (FV.out.2.2.2.2.2.2.2.2.2.2.2.2.2.2.2.2.2.2.2.2.2.2.2.2.2.2.2.2.2.2.2.2.2.2.2.2.2.2.2.2.2.1)
  have oq:=lH (FV.out.2.2.2.2.2.2.2.2.2.2.2.2.2.2.2.2.2.2.2.2.2.2.2.2.2.2.2.2.2.2.2.2.2.2.2.2.2.2.2.2.2.2.1)
  have kP:=lH (FV.out.2.2.2.2.2.2.2.2.2.2.2.2.2.2.2.2.2.2.2.2.2.2.2.2.2.2.2.2.2.2.2.2.2.2.2.2.2.2.2.2.2.2.2.1)
  have mn:=lH (FV.out.2.2.2.2.2.2.2.2.2.2.2.2.2.2.2.2.2.2.2.2.2.2.2.2.2.2.2.2.2.2.2.2.2.2.2.2.2.2.2.2.2.2.2.2.1)
  have kR:=lH (FV.out.2.2.2.2.2.2.2.2.2.2.2.2.2.2.2.2.2.2.2.2.2.2.2.2.2.2.2.2.2.2.2.2.2.2.2.2.2.2.2.2.2.2.2.2.2.1)
  have kn:=lH (FV.out.2.2.2.2.2.2.2.2.2.2.2.2.2.2.2.2.2.2.2.2.2.2.2.2.2.2.2.2.2.2.2.2.2.2.2.2.2.2.2.2.2.2.2.2.2.2.1)
  have jk:=lH (FV.out.2.2.2.2.2.2.2.2.2.2.2.2.2.2.2.2.2.2.2.2.2.2.2.2.2.2.2.2.2.2.2.2.2.2.2.2.2.2.2.2.2.2.2.2.2.2.2.1)
  have HY:=lH (FV.out.2.2.2.2.2.2.2.2.2.2.2.2.2.2.2.2.2.2.2.2.2.2.2.2.2.2.2.2.2.2.2.2.2.2.2.2.2.2.2.2.2.2.2.2.2.2.2.2.1)
  clear d7 FV
  have HF:Hid (∀ W,Below u7.heap.size u7 W→((((Holds W w.heap.size 69 #[.int .u64 (x0:Int),.int .u64 (x1:Int),.int .u64 (x2:Int),.int .u64 (x3:Int),.int .u64 (y0:Int),.int .u64 (y1:Int),.int .u64 (y2:Int),.int .u64 (y3:Int),.int .u64 (z0:Int),.int .u64 (z1:Int),.int .u64 (z2:Int),.int .u64 (z3:Int)])∧(Holds W (w.heap.size+1) 69 #[.int .u64 0,.int .u64 0,.int .u64 0,.int .u64 0,.int .u64 0,.int .u64 0,.int .u64 0,.int .u64 0,.int .u64 0,.int .u64 0,.int .u64 0,.int .u64 0])∧(Below w.heap.size w W)∧(CMet W)∧(NumOr W g3 (some (en zz)))∧(NumOr W g4 (some (en yy)))∧(w.heap.size+1<g3)∧(w.heap.size+1<g4)∧(NumOr W g5 (some (en fm)))∧(w.heap.size+1<g5)∧(NumOr W g6 (some (en a3)))∧(g3≠g6)∧(g4≠g6)∧(g5≠g6)∧(w.heap.size+1<g6))∧(NumOr W g7 (some (en fo)))∧(w.heap.size+1<g7))∧(NumOr W g8 (some (en yz)))∧(w.heap.size+1<g8))∧(NumOr W g9 (some (en X)))∧(w.heap.size+1<g9)):=lH fun W h=>⟨⟨⟨⟨qQ.out.under h (Holds.lt qQ),mf.out.under h (Holds.lt mf),qO.out.trans (h.mono qO.out.size),bv.out.under h,NumOr.under pO h,NumOr.under nD h,aV,aW,NumOr.under qA h,bu,NumOr.under ot h,aH,aJ,aG,ak⟩,NumOr.under oH h,kT⟩,NumOr.under qv h,kF⟩,NumOr.under oA h,nE⟩
  refine wp_region_noPanic ?_
  refine wp_region_held_drew (S:=fun W=>Below u7.heap.size u7 W) (by kernel_rfl) ((Below.refl _ u7).drew) (fun hHeld=>?_)
  obtain ⟨V,hV⟩:∃ W,W=u7.drew:=⟨_,rfl⟩
  rw [←hV]
  have aw:Hid (Below u7.heap.size u7 V):=lH (by rw [hV];exact (Below.refl _ u7).drew)
  replace hHeld:(fun W=>Below u7.heap.size u7 W) V:=aw.out
  clear hV
  refine tk 0 ⟨some 53,.load 67 (.tmp 6),67,_,_,none⟩ ?_ rfl ?_ hHeld ?_
  rotate_left 1
  ·(intro W hW;have bO:=(NumOr.under ot.out hW).cells cM.out;obtain ⟨q0,q1,q2,q3⟩:=bO;(try dsimp only at hW);go_simp;try with_reducible rfl)
  try simp only [aP]
  refine tk 1 ⟨some 54,.load 67 (.tmp 7),67,_,_,none⟩ ?_ rfl ?_ hHeld ?_
  rotate_left 1
  ·(intro W hW;have bO:=(NumOr.under oH.out hW).cells lk.out;obtain ⟨q0,q1,q2,q3⟩:=bO;(try dsimp only at hW);go_simp;try with_reducible rfl)
  try simp only [aP]
  refine tk 2 ⟨some 55,.load 67 (.tmp 9),67,_,_,none⟩ ?_ rfl ?_ hHeld ?_
  rotate_left 1
  ·(intro W hW;have bO:=(NumOr.under oA.out hW).cells HX.out;obtain ⟨q0,q1,q2,q3⟩:=bO;(try dsimp only at hW);go_simp;try with_reducible rfl)
  try simp only [aP]
  refine tk 5 ⟨some 58,.load 67 (.tmp 4),67,_,_,none⟩ ?_ rfl ?_ hHeld ?_
  rotate_left 1
  ·(intro W hW;have bO:=(NumOr.under nD.out hW).cells bc.out;obtain ⟨q0,q1,q2,q3⟩:=bO;(try dsimp only at hW);go_simp;try with_reducible rfl)
  try simp only [aP]
  refine tk 6 ⟨some 59,.load 67 (.tmp 4),67,_,_,none⟩ ?_ rfl ?_ hHeld ?_
  rotate_left 1
  ·(intro W hW;have bO:=(NumOr.under nD.out hW).cells bc.out;obtain ⟨q0,q1,q2,q3⟩:=bO;(try dsimp only at hW);go_simp;try with_reducible rfl)
  try simp only [aP]
  refine wpAnyH_ready (rs:=[3,12]) (by kernel_rfl) (by simp) ?_
  refine AllReadyH.cons (o:=⟨some 56,.call ⟨ .value (.func 55),#[.tmp 54,.tmp 55],#[67,67]⟩,67,_,_,none⟩) rfl (fun K hK=>?_) ?_
  go_simp
  refine (subE V (bv.out.under aw) fo X lk HX (by rw [←qJ.out];exact oq.out)).mono ?_
  rintro e V3 ⟨rfl,ab⟩
  have aA:=lH (aw.out.trans (ab.mono aw.out.size))
  clear ab
  clear aw
  go_simp
  refine hK.out _ _ (aA.out) (fun hHeld=>?_)
  clear hK K
  try simp only [aP]
  refine wpAnyH_ready (rs:=[4,12]) (by kernel_rfl) (by simp) ?_
  refine AllReadyH.cons (o:=⟨some 57,.call ⟨ .value (.func 56),#[.tmp 53,.tmp 56],#[67,67]⟩,67,_,_,none⟩) rfl (fun K hK=>?_) ?_
  go_simp
  refine (mulE V3 (bv.out.under aA) a3 fx cM oq (by rw [←qy.out];exact kP.out)).mono ?_
  rintro e qF ⟨rfl,ab⟩
  have cA:=lH (aA.out.trans (ab.mono aA.out.size))
  clear ab
  clear aA
  go_simp
  refine hK.out _ _ (cA.out) (fun hHeld=>?_)
  clear hK K
  try simp only [aP]
  refine wpAnyH_ready (rs:=[7,12]) (by kernel_rfl) (by simp) ?_
  refine AllReadyH.cons (o:=⟨some 60,.call ⟨ .value (.func 56),#[.tmp 58,.tmp 59],#[67,67]⟩,67,_,_,none⟩) rfl (fun K hK=>?_) ?_
  go_simp
  refine (mulE qF (bv.out.under cA) yy yy bc bc (by rw [←ph.out];exact mn.out)).mono ?_
  rintro e nT ⟨rfl,ab⟩
  have bk:=lH (cA.out.trans (ab.mono cA.out.size))
  clear ab
  clear cA
  go_simp
  refine hK.out _ _ (bk.out) (fun hHeld=>?_)
  clear hK K
  try simp only [aP]
  refine wpAnyH_ready (rs:=[8,12]) (by kernel_rfl) (by simp) ?_
  refine AllReadyH.cons (o:=⟨some 61,.call ⟨ .value (.func 78),#[.tmp 60],#[67]⟩,67,_,_,none⟩) rfl (fun K hK=>?_) ?_
  go_simp
  refine (twiceE nT (bv.out.under bk) ga mn (by rw [←ou.out];exact kR.out)).mono ?_
  rintro e lU ⟨rfl,ab⟩
  have aF:=lH (bk.out.trans (ab.mono bk.out.size))
  clear ab
  clear bk
  go_simp
  refine hK.out _ _ (aF.out) (fun hHeld=>?_)
  clear hK K
  try simp only [aP]
  refine wpAnyH_ready (rs:=[9,12]) (by kernel_rfl) (by simp) ?_
  refine AllReadyH.cons (o:=⟨some 62,.call ⟨ .value (.func 78),#[.tmp 61],#[67]⟩,67,_,_,none⟩) rfl (fun K hK=>?_) ?_
  go_simp
  refine (twiceE lU (bv.out.under aF) gb kR (by rw [←nZ.out];exact kn.out)).mono ?_
  rintro e ji ⟨rfl,ab⟩
  have ay:=lH (aF.out.trans (ab.mono aF.out.size))
  clear ab
  clear aF
  go_simp
  refine hK.out _ _ (ay.out) (fun hHeld=>?_)
  clear hK K
  try simp only [aP]
  refine wpAnyH_ready (rs:=[10,12]) (by kernel_rfl) (by simp) ?_
  refine AllReadyH.cons (o:=⟨some 63,.call ⟨ .value (.func 78),#[.tmp 62],#[67]⟩,67,_,_,none⟩) rfl (fun K hK=>?_) ?_
  go_simp
  refine (twiceE ji (bv.out.under ay) gd kn (by rw [←nG.out];exact jk.out)).mono ?_
  rintro e fE ⟨rfl,ab⟩
  have ax:=lH (ay.out.trans (ab.mono ay.out.size))
  clear ab
  clear ay
  go_simp
  refine hK.out _ _ (ax.out) (fun hHeld=>?_)
  clear hK K
  try simp only [aP]
  refine wpAnyH_ready (rs:=[11,12]) (by kernel_rfl) (by simp) ?_
  refine AllReadyH.cons (o:=⟨some 64,.call ⟨ .value (.func 55),#[.tmp 57,.tmp 63],#[67,67]⟩,67,_,_,none⟩) rfl (fun K hK=>?_) ?_
  go_simp
  refine (subE fE (bv.out.under ax) af ge kP jk (by rw [←EY.out];exact HY.out)).mono ?_
  rintro e iA ⟨rfl,ab⟩
  have aK:=lH (ax.out.trans (ab.mono ax.out.size))
  clear ab
  clear ax
  go_simp
  refine hK.out _ _ (aK.out) (fun hHeld=>?_)
  clear hK K
  try simp only [aP]
  refine rdy 12 ⟨some 10,.alloc 67,0,_,_,none⟩ rfl (fun K hK=>?_)
  obtain ⟨cO,hN⟩:∃ W,W=iA.alloc (.cells #[.int .u64 0,.int .u64 0,.int .u64 0,.int .u64 0] 67):=⟨_,rfl⟩
  go_simp
  rw [←hN]
  obtain ⟨ae,hg⟩:∃ g,g=iA.heap.size:=⟨_,rfl⟩
  rw [←hg]
  have bm:Hid (NumOr cO ae none):=lH (by rw [hN,hg];exact NumOr.fresh _)
  have bD:=lH (by rw [hN];exact aK.out.alloc aK.out.size _:Below u7.heap.size u7 cO)
  have aO:Hid (u7.heap.size≤ae):=lH (by rw [hg];exact aK.out.size)
  clear hN hg
  have az:=lH (show w.heap.size+1<ae from (by have h1:=Holds.lt mf.out;have h2:=aO.out;omega))
  clear aK
  refine hK.out _ _ (bD.out) (fun hHeld=>?_)
  clear hK K
  try simp only [aP]
  refine rdy 13 ⟨none,.store 67 (.tmp 10) (.tmp 64),0,_,_,none⟩ rfl (fun K hK=>?_)
  obtain ⟨am,av,au,ao,⟨z0,o0⟩,⟨z1,o1⟩,⟨z2,o2⟩,⟨z3,o3⟩⟩:=NumOr.facts bm.out
  obtain ⟨d9,hN⟩:∃ W,W=((((cO.setCell ⟨ae,0,none⟩ (.int .u64 (Y0:Int))).setCell ⟨ae,1,none⟩ (.int .u64 (Y1:Int))).setCell ⟨ae,2,none⟩ (.int .u64 (Y2:Int))).setCell ⟨ae,3,none⟩ (.int .u64 (Y3:Int))):=⟨_,rfl⟩
  go_simp
  rw [←hN]
  have eW:Hid (NumOr d9 ae (some (en Y))):=lH (by rw [hN];exact NumOr.set bm HY)
  have cB:=lH (by rw [hN];exact below4 bD aO _ _ _ _:Below u7.heap.size u7 d9)
  clear hN z0 o0 z1 o1 z2 o2 z3 o3 am av au ao
  clear bD bm
  refine hK.out _ _ (cB.out) (fun hHeld=>?_)
  clear hK K
  try simp only [aP]
  refine dn ?_
  rw [mg.out]
  exact ⟨rfl,ae,rfl,rfl,HF _ cB,eW,az⟩
  refine AllReadyH.cons (o:=⟨some 10,.alloc 67,0,_,_,none⟩) rfl (fun K hK=>?_) AllReadyH.nil
  obtain ⟨em,hN⟩:∃ W,W=fE.alloc (.cells #[.int .u64 0,.int .u64 0,.int .u64 0,.int .u64 0] 67):=⟨_,rfl⟩
  go_simp
  rw [←hN]
  obtain ⟨ae,hg⟩:∃ g,g=fE.heap.size:=⟨_,rfl⟩
  rw [←hg]
  have di:Hid (NumOr em ae none):=lH (by rw [hN,hg];exact NumOr.fresh _)
  have aQ:=lH (by rw [hN];exact ax.out.alloc ax.out.size _:Below u7.heap.size u7 em)
  have aO:Hid (u7.heap.size≤ae):=lH (by rw [hg];exact ax.out.size)
  clear hN hg
  have az:=lH (show w.heap.size+1<ae from (by have h1:=Holds.lt mf.out;have h2:=aO.out;omega))
  clear ax
  refine hK.out _ _ (aQ.out) (fun hHeld=>?_)
  clear hK K
  try simp only [aP]
  refine rdy 11 ⟨some 64,.call ⟨ .value (.func 55),#[.tmp 57,.tmp 63],#[67,67]⟩,67,_,_,none⟩ rfl (fun K hK=>?_)
  go_simp
  refine (subE em (bv.out.under aQ) af ge kP jk (by rw [←EY.out];exact HY.out)).mono ?_
  rintro e fA ⟨rfl,ab⟩
  have bx:=lH (aQ.out.trans (ab.mono aQ.out.size))
  have bn:Hid (NumOr fA ae none):=lH (NumOr.under di ab)
  clear ab
  clear aQ di
  go_simp
  refine hK.out _ _ (bx.out) (fun hHeld=>?_)
  clear hK K
  try simp only [aP]
  refine rdy 13 ⟨none,.store 67 (.tmp 10) (.tmp 64),0,_,_,none⟩ rfl (fun K hK=>?_)
  obtain ⟨am,av,au,ao,⟨z0,o0⟩,⟨z1,o1⟩,⟨z2,o2⟩,⟨z3,o3⟩⟩:=NumOr.facts bn.out
  obtain ⟨dD,hN⟩:∃ W,W=((((fA.setCell ⟨ae,0,none⟩ (.int .u64 (Y0:Int))).setCell ⟨ae,1,none⟩ (.int .u64 (Y1:Int))).setCell ⟨ae,2,none⟩ (.int .u64 (Y2:Int))).setCell ⟨ae,3,none⟩ (.int .u64 (Y3:Int))):=⟨_,rfl⟩
  go_simp
  rw [←hN]
  have eT:Hid (NumOr dD ae (some (en Y))):=lH (by rw [hN];exact NumOr.set bn HY)
  have cC:=lH (by rw [hN];exact below4 bx aO _ _ _ _:Below u7.heap.size u7 dD)
  clear hN z0 o0 z1 o1 z2 o2 z3 o3 am av au ao
  clear bx bn
  refine hK.out _ _ (cC.out) (fun hHeld=>?_)
  clear hK K
  try simp only [aP]
  refine dn ?_
  rw [mg.out]
  exact ⟨rfl,ae,rfl,rfl,HF _ cC,eT,az⟩
  refine AllReadyH.cons (o:=⟨some 10,.alloc 67,0,_,_,none⟩) rfl (fun K hK=>?_) AllReadyH.nil
  obtain ⟨fU,hN⟩:∃ W,W=ji.alloc (.cells #[.int .u64 0,.int .u64 0,.int .u64 0,.int .u64 0] 67):=⟨_,rfl⟩
  go_simp
  rw [←hN]
  obtain ⟨ae,hg⟩:∃ g,g=ji.heap.size:=⟨_,rfl⟩
  rw [←hg]
  have d6:Hid (NumOr fU ae none):=lH (by rw [hN,hg];exact NumOr.fresh _)
  have a8:=lH (by rw [hN];exact ay.out.alloc ay.out.size _:Below u7.heap.size u7 fU)
  have aO:Hid (u7.heap.size≤ae):=lH (by rw [hg];exact ay.out.size)
  clear hN hg
  have az:=lH (show w.heap.size+1<ae from (by have h1:=Holds.lt mf.out;have h2:=aO.out;omega))
  clear ay
  refine hK.out _ _ (a8.out) (fun hHeld=>?_)
  clear hK K
  try simp only [aP]
  refine rdy 10 ⟨some 63,.call ⟨ .value (.func 78),#[.tmp 62],#[67]⟩,67,_,_,none⟩ rfl (fun K hK=>?_)
  go_simp
  refine (twiceE fU (bv.out.under a8) gd kn (by rw [←nG.out];exact jk.out)).mono ?_
  rintro e ik ⟨rfl,ab⟩
  have aT:=lH (a8.out.trans (ab.mono a8.out.size))
  have cT:Hid (NumOr ik ae none):=lH (NumOr.under d6 ab)
  clear ab
  clear a8 d6
  go_simp
  refine hK.out _ _ (aT.out) (fun hHeld=>?_)
  clear hK K
  try simp only [aP]
  refine rdy 11 ⟨some 64,.call ⟨ .value (.func 55),#[.tmp 57,.tmp 63],#[67,67]⟩,67,_,_,none⟩ rfl (fun K hK=>?_)
  go_simp
  refine (subE ik (bv.out.under aT) af ge kP jk (by rw [←EY.out];exact HY.out)).mono ?_
  rintro e e8 ⟨rfl,ab⟩
  have bz:=lH (aT.out.trans (ab.mono aT.out.size))
  have br:Hid (NumOr e8 ae none):=lH (NumOr.under cT ab)
  clear ab
  clear aT cT
  go_simp
  refine hK.out _ _ (bz.out) (fun hHeld=>?_)
  clear hK K
  try simp only [aP]
  refine rdy 13 ⟨none,.store 67 (.tmp 10) (.tmp 64),0,_,_,none⟩ rfl (fun K hK=>?_)
  obtain ⟨am,av,au,ao,⟨z0,o0⟩,⟨z1,o1⟩,⟨z2,o2⟩,⟨z3,o3⟩⟩:=NumOr.facts br.out
  obtain ⟨du,hN⟩:∃ W,W=((((e8.setCell ⟨ae,0,none⟩ (.int .u64 (Y0:Int))).setCell ⟨ae,1,none⟩ (.int .u64 (Y1:Int))).setCell ⟨ae,2,none⟩ (.int .u64 (Y2:Int))).setCell ⟨ae,3,none⟩ (.int .u64 (Y3:Int))):=⟨_,rfl⟩
  go_simp
  rw [←hN]
  have eU:Hid (NumOr du ae (some (en Y))):=lH (by rw [hN];exact NumOr.set br HY)
  have bT:=lH (by rw [hN];exact below4 bz aO _ _ _ _:Below u7.heap.size u7 du)
  clear hN z0 o0 z1 o1 z2 o2 z3 o3 am av au ao
  clear bz br
  refine hK.out _ _ (bT.out) (fun hHeld=>?_)
  clear hK K
  try simp only [aP]
  refine dn ?_
  rw [mg.out]
  exact ⟨rfl,ae,rfl,rfl,HF _ bT,eU,az⟩
  refine AllReadyH.cons (o:=⟨some 10,.alloc 67,0,_,_,none⟩) rfl (fun K hK=>?_) AllReadyH.nil
  obtain ⟨jm,hN⟩:∃ W,W=lU.alloc (.cells #[.int .u64 0,.int .u64 0,.int .u64 0,.int .u64 0] 67):=⟨_,rfl⟩
  go_simp
  rw [←hN]
  obtain ⟨ae,hg⟩:∃ g,g=lU.heap.size:=⟨_,rfl⟩
  rw [←hg]
  have fp:Hid (NumOr jm ae none):=lH (by rw [hN,hg];exact NumOr.fresh _)
  have bE:=lH (by rw [hN];exact aF.out.alloc aF.out.size _:Below u7.heap.size u7 jm)
  have aO:Hid (u7.heap.size≤ae):=lH (by rw [hg];exact aF.out.size)
  clear hN hg
  have az:=lH (show w.heap.size+1<ae from (by have h1:=Holds.lt mf.out;have h2:=aO.out;omega))
  clear aF
  refine hK.out _ _ (bE.out) (fun hHeld=>?_)
  clear hK K
  try simp only [aP]
  refine rdy 9 ⟨some 62,.call ⟨ .value (.func 78),#[.tmp 61],#[67]⟩,67,_,_,none⟩ rfl (fun K hK=>?_)
  go_simp
  refine (twiceE jm (bv.out.under bE) gb kR (by rw [←nZ.out];exact kn.out)).mono ?_
  rintro e jy ⟨rfl,ab⟩
  have a_:=lH (bE.out.trans (ab.mono bE.out.size))
  have eD:Hid (NumOr jy ae none):=lH (NumOr.under fp ab)
  clear ab
  clear bE fp
  go_simp
  refine hK.out _ _ (a_.out) (fun hHeld=>?_)
  clear hK K
  try simp only [aP]
  refine rdy 10 ⟨some 63,.call ⟨ .value (.func 78),#[.tmp 62],#[67]⟩,67,_,_,none⟩ rfl (fun K hK=>?_)
  go_simp
  refine (twiceE jy (bv.out.under a_) gd kn (by rw [←nG.out];exact jk.out)).mono ?_
  rintro e il ⟨rfl,ab⟩
  have aL:=lH (a_.out.trans (ab.mono a_.out.size))
  have dc:Hid (NumOr il ae none):=lH (NumOr.under eD ab)
  clear ab
  clear a_ eD
  go_simp
  refine hK.out _ _ (aL.out) (fun hHeld=>?_)
  clear hK K
  try simp only [aP]
  refine rdy 11 ⟨some 64,.call ⟨ .value (.func 55),#[.tmp 57,.tmp 63],#[67,67]⟩,67,_,_,none⟩ rfl (fun K hK=>?_)
  go_simp
  refine (subE il (bv.out.under aL) af ge kP jk (by rw [←EY.out];exact HY.out)).mono ?_
  rintro e fg ⟨rfl,ab⟩
  have bw:=lH (aL.out.trans (ab.mono aL.out.size))
  have bl:Hid (NumOr fg ae none):=lH (NumOr.under dc ab)
  clear ab
  clear aL dc
  go_simp
  refine hK.out _ _ (bw.out) (fun hHeld=>?_)
  clear hK K
  try simp only [aP]
  refine rdy 13 ⟨none,.store 67 (.tmp 10) (.tmp 64),0,_,_,none⟩ rfl (fun K hK=>?_)
  obtain ⟨am,av,au,ao,⟨z0,o0⟩,⟨z1,o1⟩,⟨z2,o2⟩,⟨z3,o3⟩⟩:=NumOr.facts bl.out
  obtain ⟨d8,hN⟩:∃ W,W=((((fg.setCell ⟨ae,0,none⟩ (.int .u64 (Y0:Int))).setCell ⟨ae,1,none⟩ (.int .u64 (Y1:Int))).setCell ⟨ae,2,none⟩ (.int .u64 (Y2:Int))).setCell ⟨ae,3,none⟩ (.int .u64 (Y3:Int))):=⟨_,rfl⟩
  go_simp
  rw [←hN]
  have eV:Hid (NumOr d8 ae (some (en Y))):=lH (by rw [hN];exact NumOr.set bl HY)
  have cD:=lH (by rw [hN];exact below4 bw aO _ _ _ _:Below u7.heap.size u7 d8)
  clear hN z0 o0 z1 o1 z2 o2 z3 o3 am av au ao
  clear bw bl
  refine hK.out _ _ (cD.out) (fun hHeld=>?_)
  clear hK K
  try simp only [aP]
  refine dn ?_
  rw [mg.out]
  exact ⟨rfl,ae,rfl,rfl,HF _ cD,eV,az⟩
  refine AllReadyH.cons (o:=⟨some 10,.alloc 67,0,_,_,none⟩) rfl (fun K hK=>?_) AllReadyH.nil
  obtain ⟨kX,hN⟩:∃ W,W=nT.alloc (.cells #[.int .u64 0,.int .u64 0,.int .u64 0,.int .u64 0] 67):=⟨_,rfl⟩
  go_simp
  rw [←hN]
  obtain ⟨ae,hg⟩:∃ g,g=nT.heap.size:=⟨_,rfl⟩
  rw [←hg]
  have i8:Hid (NumOr kX ae none):=lH (by rw [hN,hg];exact NumOr.fresh _)
  have bV:=lH (by rw [hN];exact bk.out.alloc bk.out.size _:Below u7.heap.size u7 kX)
  have aO:Hid (u7.heap.size≤ae):=lH (by rw [hg];exact bk.out.size)
  clear hN hg
  have az:=lH (show w.heap.size+1<ae from (by have h1:=Holds.lt mf.out;have h2:=aO.out;omega))
  clear bk
  refine hK.out _ _ (bV.out) (fun hHeld=>?_)
  clear hK K
  try simp only [aP]
  refine rdy 8 ⟨some 61,.call ⟨ .value (.func 78),#[.tmp 60],#[67]⟩,67,_,_,none⟩ rfl (fun K hK=>?_)
  go_simp
  refine (twiceE kX (bv.out.under bV) ga mn (by rw [←ou.out];exact kR.out)).mono ?_
  rintro e lS ⟨rfl,ab⟩
  have bJ:=lH (bV.out.trans (ab.mono bV.out.size))
  have e_:Hid (NumOr lS ae none):=lH (NumOr.under i8 ab)
  clear ab
  clear bV i8
  go_simp
  refine hK.out _ _ (bJ.out) (fun hHeld=>?_)
  clear hK K
  try simp only [aP]
  refine rdy 9 ⟨some 62,.call ⟨ .value (.func 78),#[.tmp 61],#[67]⟩,67,_,_,none⟩ rfl (fun K hK=>?_)
  go_simp
  refine (twiceE lS (bv.out.under bJ) gb kR (by rw [←nZ.out];exact kn.out)).mono ?_
  rintro e jL ⟨rfl,ab⟩
  have aY:=lH (bJ.out.trans (ab.mono bJ.out.size))
  have ez:Hid (NumOr jL ae none):=lH (NumOr.under e_ ab)
  clear ab
  clear bJ e_
  go_simp
  refine hK.out _ _ (aY.out) (fun hHeld=>?_)
  clear hK K
  try simp only [aP]
  refine rdy 10 ⟨some 63,.call ⟨ .value (.func 78),#[.tmp 62],#[67]⟩,67,_,_,none⟩ rfl (fun K hK=>?_)
  go_simp
  refine (twiceE jL (bv.out.under aY) gd kn (by rw [←nG.out];exact jk.out)).mono ?_
  rintro e iR ⟨rfl,ab⟩
  have aM:=lH (aY.out.trans (ab.mono aY.out.size))
  have cU:Hid (NumOr iR ae none):=lH (NumOr.under ez ab)
  clear ab
  clear aY ez
  go_simp
  refine hK.out _ _ (aM.out) (fun hHeld=>?_)
  clear hK K
  try simp only [aP]
  refine rdy 11 ⟨some 64,.call ⟨ .value (.func 55),#[.tmp 57,.tmp 63],#[67,67]⟩,67,_,_,none⟩ rfl (fun K hK=>?_)
  go_simp
  refine (subE iR (bv.out.under aM) af ge kP jk (by rw [←EY.out];exact HY.out)).mono ?_
  rintro e ft ⟨rfl,ab⟩
  have bA:=lH (aM.out.trans (ab.mono aM.out.size))
  have bd:Hid (NumOr ft ae none):=lH (NumOr.under cU ab)
  clear ab
  clear aM cU
  go_simp
  refine hK.out _ _ (bA.out) (fun hHeld=>?_)
  clear hK K
  try simp only [aP]
  refine rdy 13 ⟨none,.store 67 (.tmp 10) (.tmp 64),0,_,_,none⟩ rfl (fun K hK=>?_)
  obtain ⟨am,av,au,ao,⟨z0,o0⟩,⟨z1,o1⟩,⟨z2,o2⟩,⟨z3,o3⟩⟩:=NumOr.facts bd.out
  obtain ⟨dM,hN⟩:∃ W,W=((((ft.setCell ⟨ae,0,none⟩ (.int .u64 (Y0:Int))).setCell ⟨ae,1,none⟩ (.int .u64 (Y1:Int))).setCell ⟨ae,2,none⟩ (.int .u64 (Y2:Int))).setCell ⟨ae,3,none⟩ (.int .u64 (Y3:Int))):=⟨_,rfl⟩
  go_simp
  rw [←hN]
  have eS:Hid (NumOr dM ae (some (en Y))):=lH (by rw [hN];exact NumOr.set bd HY)
  have cK:=lH (by rw [hN];exact below4 bA aO _ _ _ _:Below u7.heap.size u7 dM)
  clear hN z0 o0 z1 o1 z2 o2 z3 o3 am av au ao
  clear bA bd
  refine hK.out _ _ (cK.out) (fun hHeld=>?_)
  clear hK K
  try simp only [aP]
  refine dn ?_
  rw [mg.out]
  exact ⟨rfl,ae,rfl,rfl,HF _ cK,eS,az⟩
  refine AllReadyH.cons (o:=⟨some 10,.alloc 67,0,_,_,none⟩) rfl (fun K hK=>?_) AllReadyH.nil
  obtain ⟨nw,hN⟩:∃ W,W=qF.alloc (.cells #[.int .u64 0,.int .u64 0,.int .u64 0,.int .u64 0] 67):=⟨_,rfl⟩
  go_simp
  rw [←hN]
  obtain ⟨ae,hg⟩:∃ g,g=qF.heap.size:=⟨_,rfl⟩
  rw [←hg]
  have jK:Hid (NumOr nw ae none):=lH (by rw [hN,hg];exact NumOr.fresh _)
  have dQ:=lH (by rw [hN];exact cA.out.alloc cA.out.size _:Below u7.heap.size u7 nw)
  have aO:Hid (u7.heap.size≤ae):=lH (by rw [hg];exact cA.out.size)
  clear hN hg
  have az:=lH (show w.heap.size+1<ae from (by have h1:=Holds.lt mf.out;have h2:=aO.out;omega))
  clear cA
  refine hK.out _ _ (dQ.out) (fun hHeld=>?_)
  clear hK K
  try simp only [aP]
  refine rdy 7 ⟨some 60,.call ⟨ .value (.func 56),#[.tmp 58,.tmp 59],#[67,67]⟩,67,_,_,none⟩ rfl (fun K hK=>?_)
  go_simp
  refine (mulE nw (bv.out.under dQ) yy yy bc bc (by rw [←ph.out];exact mn.out)).mono ?_
  rintro e mI ⟨rfl,ab⟩
  have bY:=lH (dQ.out.trans (ab.mono dQ.out.size))
  have iG:Hid (NumOr mI ae none):=lH (NumOr.under jK ab)
  clear ab
  clear dQ jK
  go_simp
  refine hK.out _ _ (bY.out) (fun hHeld=>?_)
  clear hK K
  try simp only [aP]
  refine rdy 8 ⟨some 61,.call ⟨ .value (.func 78),#[.tmp 60],#[67]⟩,67,_,_,none⟩ rfl (fun K hK=>?_)
  go_simp
  refine (twiceE mI (bv.out.under bY) ga mn (by rw [←ou.out];exact kR.out)).mono ?_
  rintro e lJ ⟨rfl,ab⟩
  have bB:=lH (bY.out.trans (ab.mono bY.out.size))
  have eY:Hid (NumOr lJ ae none):=lH (NumOr.under iG ab)
  clear ab
  clear bY iG
  go_simp
  refine hK.out _ _ (bB.out) (fun hHeld=>?_)
  clear hK K
  try simp only [aP]
  refine rdy 9 ⟨some 62,.call ⟨ .value (.func 78),#[.tmp 61],#[67]⟩,67,_,_,none⟩ rfl (fun K hK=>?_)
  go_simp
  refine (twiceE lJ (bv.out.under bB) gb kR (by rw [←nZ.out];exact kn.out)).mono ?_
  rintro e jP ⟨rfl,ab⟩
  have a6:=lH (bB.out.trans (ab.mono bB.out.size))
  have dO:Hid (NumOr jP ae none):=lH (NumOr.under eY ab)
  clear ab
  clear bB eY
  go_simp
  refine hK.out _ _ (a6.out) (fun hHeld=>?_)
  clear hK K
  try simp only [aP]
  refine rdy 10 ⟨some 63,.call ⟨ .value (.func 78),#[.tmp 62],#[67]⟩,67,_,_,none⟩ rfl (fun K hK=>?_)
  go_simp
  refine (twiceE jP (bv.out.under a6) gd kn (by rw [←nG.out];exact jk.out)).mono ?_
  rintro e iH ⟨rfl,ab⟩
  have aR:=lH (a6.out.trans (ab.mono a6.out.size))
  have cW:Hid (NumOr iH ae none):=lH (NumOr.under dO ab)
  clear ab
  clear a6 dO
  go_simp
  refine hK.out _ _ (aR.out) (fun hHeld=>?_)
  clear hK K
  try simp only [aP]
  refine rdy 11 ⟨some 64,.call ⟨ .value (.func 55),#[.tmp 57,.tmp 63],#[67,67]⟩,67,_,_,none⟩ rfl (fun K hK=>?_)
  go_simp
  refine (subE iH (bv.out.under aR) af ge kP jk (by rw [←EY.out];exact HY.out)).mono ?_
  rintro e fs ⟨rfl,ab⟩
  have bI:=lH (aR.out.trans (ab.mono aR.out.size))
  have bs:Hid (NumOr fs ae none):=lH (NumOr.under cW ab)
  clear ab
  clear aR cW
  go_simp
  refine hK.out _ _ (bI.out) (fun hHeld=>?_)
  clear hK K
  try simp only [aP]
  refine rdy 13 ⟨none,.store 67 (.tmp 10) (.tmp 64),0,_,_,none⟩ rfl (fun K hK=>?_)
  obtain ⟨am,av,au,ao,⟨z0,o0⟩,⟨z1,o1⟩,⟨z2,o2⟩,⟨z3,o3⟩⟩:=NumOr.facts bs.out
  obtain ⟨eg,hN⟩:∃ W,W=((((fs.setCell ⟨ae,0,none⟩ (.int .u64 (Y0:Int))).setCell ⟨ae,1,none⟩ (.int .u64 (Y1:Int))).setCell ⟨ae,2,none⟩ (.int .u64 (Y2:Int))).setCell ⟨ae,3,none⟩ (.int .u64 (Y3:Int))):=⟨_,rfl⟩
  go_simp
  rw [←hN]
  have eQ:Hid (NumOr eg ae (some (en Y))):=lH (by rw [hN];exact NumOr.set bs HY)
  have bS:=lH (by rw [hN];exact below4 bI aO _ _ _ _:Below u7.heap.size u7 eg)
  clear hN z0 o0 z1 o1 z2 o2 z3 o3 am av au ao
  clear bI bs
  refine hK.out _ _ (bS.out) (fun hHeld=>?_)
  clear hK K
  try simp only [aP]
  refine dn ?_
  rw [mg.out]
  exact ⟨rfl,ae,rfl,rfl,HF _ bS,eQ,az⟩
  refine AllReadyH.cons (o:=⟨some 10,.alloc 67,0,_,_,none⟩) rfl (fun K hK=>?_) AllReadyH.nil
  obtain ⟨qo,hN⟩:∃ W,W=V3.alloc (.cells #[.int .u64 0,.int .u64 0,.int .u64 0,.int .u64 0] 67):=⟨_,rfl⟩
  go_simp
  rw [←hN]
  obtain ⟨ae,hg⟩:∃ g,g=V3.heap.size:=⟨_,rfl⟩
  rw [←hg]
  have kv:Hid (NumOr qo ae none):=lH (by rw [hN,hg];exact NumOr.fresh _)
  have id:=lH (by rw [hN];exact aA.out.alloc aA.out.size _:Below u7.heap.size u7 qo)
  have aO:Hid (u7.heap.size≤ae):=lH (by rw [hg];exact aA.out.size)
  clear hN hg
  have az:=lH (show w.heap.size+1<ae from (by have h1:=Holds.lt mf.out;have h2:=aO.out;omega))
  clear aA
  refine hK.out _ _ (id.out) (fun hHeld=>?_)
  clear hK K
  try simp only [aP]
  refine rdy 4 ⟨some 57,.call ⟨ .value (.func 56),#[.tmp 53,.tmp 56],#[67,67]⟩,67,_,_,none⟩ rfl (fun K hK=>?_)
  go_simp
  refine (mulE qo (bv.out.under id) a3 fx cM oq (by rw [←qy.out];exact kP.out)).mono ?_
  rintro e oS ⟨rfl,ab⟩
  have dL:=lH (id.out.trans (ab.mono id.out.size))
  have jJ:Hid (NumOr oS ae none):=lH (NumOr.under kv ab)
  clear ab
  clear id kv
  go_simp
  refine hK.out _ _ (dL.out) (fun hHeld=>?_)
  clear hK K
  try simp only [aP]
  refine rdy 7 ⟨some 60,.call ⟨ .value (.func 56),#[.tmp 58,.tmp 59],#[67,67]⟩,67,_,_,none⟩ rfl (fun K hK=>?_)
  go_simp
  refine (mulE oS (bv.out.under dL) yy yy bc bc (by rw [←ph.out];exact mn.out)).mono ?_
  rintro e mP ⟨rfl,ab⟩
  have cJ:=lH (dL.out.trans (ab.mono dL.out.size))
  have i_:Hid (NumOr mP ae none):=lH (NumOr.under jJ ab)
  clear ab
  clear dL jJ
  go_simp
  refine hK.out _ _ (cJ.out) (fun hHeld=>?_)
  clear hK K
  try simp only [aP]
  refine rdy 8 ⟨some 61,.call ⟨ .value (.func 78),#[.tmp 60],#[67]⟩,67,_,_,none⟩ rfl (fun K hK=>?_)
  go_simp
  refine (twiceE mP (bv.out.under cJ) ga mn (by rw [←ou.out];exact kR.out)).mono ?_
  rintro e l9 ⟨rfl,ab⟩
  have bH:=lH (cJ.out.trans (ab.mono cJ.out.size))
  have fa:Hid (NumOr l9 ae none):=lH (NumOr.under i_ ab)
  clear ab
  clear cJ i_
  go_simp
  refine hK.out _ _ (bH.out) (fun hHeld=>?_)
  clear hK K
  try simp only [aP]
  refine rdy 9 ⟨some 62,.call ⟨ .value (.func 78),#[.tmp 61],#[67]⟩,67,_,_,none⟩ rfl (fun K hK=>?_)
  go_simp
  refine (twiceE l9 (bv.out.under bH) gb kR (by rw [←nZ.out];exact kn.out)).mono ?_
  rintro e jF ⟨rfl,ab⟩
  have a9:=lH (bH.out.trans (ab.mono bH.out.size))
  have dw:Hid (NumOr jF ae none):=lH (NumOr.under fa ab)
  clear ab
  clear bH fa
  go_simp
  refine hK.out _ _ (a9.out) (fun hHeld=>?_)
  clear hK K
  try simp only [aP]
  refine rdy 10 ⟨some 63,.call ⟨ .value (.func 78),#[.tmp 62],#[67]⟩,67,_,_,none⟩ rfl (fun K hK=>?_)
  go_simp
  refine (twiceE jF (bv.out.under a9) gd kn (by rw [←nG.out];exact jk.out)).mono ?_
  rintro e iu ⟨rfl,ab⟩
  have aN:=lH (a9.out.trans (ab.mono a9.out.size))
  have cS:Hid (NumOr iu ae none):=lH (NumOr.under dw ab)
  clear ab
  clear a9 dw
  go_simp
  refine hK.out _ _ (aN.out) (fun hHeld=>?_)
  clear hK K
  try simp only [aP]
  refine rdy 11 ⟨some 64,.call ⟨ .value (.func 55),#[.tmp 57,.tmp 63],#[67,67]⟩,67,_,_,none⟩ rfl (fun K hK=>?_)
  go_simp
  refine (subE iu (bv.out.under aN) af ge kP jk (by rw [←EY.out];exact HY.out)).mono ?_
  rintro e e9 ⟨rfl,ab⟩
  have bF:=lH (aN.out.trans (ab.mono aN.out.size))
  have bf:Hid (NumOr e9 ae none):=lH (NumOr.under cS ab)
  clear ab
  clear aN cS
  go_simp
  refine hK.out _ _ (bF.out) (fun hHeld=>?_)
  clear hK K
  try simp only [aP]
  refine rdy 13 ⟨none,.store 67 (.tmp 10) (.tmp 64),0,_,_,none⟩ rfl (fun K hK=>?_)
  obtain ⟨am,av,au,ao,⟨z0,o0⟩,⟨z1,o1⟩,⟨z2,o2⟩,⟨z3,o3⟩⟩:=NumOr.facts bf.out
  obtain ⟨dU,hN⟩:∃ W,W=((((e9.setCell ⟨ae,0,none⟩ (.int .u64 (Y0:Int))).setCell ⟨ae,1,none⟩ (.int .u64 (Y1:Int))).setCell ⟨ae,2,none⟩ (.int .u64 (Y2:Int))).setCell ⟨ae,3,none⟩ (.int .u64 (Y3:Int))):=⟨_,rfl⟩
  go_simp
  rw [←hN]
  have eR:Hid (NumOr dU ae (some (en Y))):=lH (by rw [hN];exact NumOr.set bf HY)
  have bR:=lH (by rw [hN];exact below4 bF aO _ _ _ _:Below u7.heap.size u7 dU)
  clear hN z0 o0 z1 o1 z2 o2 z3 o3 am av au ao
  clear bF bf
  refine hK.out _ _ (bR.out) (fun hHeld=>?_)
  clear hK K
  try simp only [aP]
  refine dn ?_
  rw [mg.out]
  exact ⟨rfl,ae,rfl,rfl,HF _ bR,eR,az⟩
  refine AllReadyH.cons (o:=⟨some 10,.alloc 67,0,_,_,none⟩) rfl (fun K hK=>?_) AllReadyH.nil
  obtain ⟨Vc,hN⟩:∃ W,W=V.alloc (.cells #[.int .u64 0,.int .u64 0,.int .u64 0,.int .u64 0] 67):=⟨_,rfl⟩
  go_simp
  rw [←hN]
  obtain ⟨ae,hg⟩:∃ g,g=V.heap.size:=⟨_,rfl⟩
  rw [←hg]
  have mD:Hid (NumOr Vc ae none):=lH (by rw [hN,hg];exact NumOr.fresh _)
  have kH:=lH (by rw [hN];exact aw.out.alloc aw.out.size _:Below u7.heap.size u7 Vc)
  have aO:Hid (u7.heap.size≤ae):=lH (by rw [hg];exact aw.out.size)
  clear hN hg
  have az:=lH (show w.heap.size+1<ae from (by have h1:=Holds.lt mf.out;have h2:=aO.out;omega))
  clear aw
  refine hK.out _ _ (kH.out) (fun hHeld=>?_)
  clear hK K
  try simp only [aP]
  refine rdy 3 ⟨some 56,.call ⟨ .value (.func 55),#[.tmp 54,.tmp 55],#[67,67]⟩,67,_,_,none⟩ rfl (fun K hK=>?_)
  go_simp
  refine (subE Vc (bv.out.under kH) fo X lk HX (by rw [←qJ.out];exact oq.out)).mono ?_
  rintro e rh ⟨rfl,ab⟩
  have iv:=lH (kH.out.trans (ab.mono kH.out.size))
  have lR:Hid (NumOr rh ae none):=lH (NumOr.under mD ab)
  clear ab
  clear kH mD
  go_simp
  refine hK.out _ _ (iv.out) (fun hHeld=>?_)
  clear hK K
  try simp only [aP]
  refine rdy 4 ⟨some 57,.call ⟨ .value (.func 56),#[.tmp 53,.tmp 56],#[67,67]⟩,67,_,_,none⟩ rfl (fun K hK=>?_)
  go_simp
  refine (mulE rh (bv.out.under iv) a3 fx cM oq (by rw [←qy.out];exact kP.out)).mono ?_
  rintro e oO ⟨rfl,ab⟩
  have dV:=lH (iv.out.trans (ab.mono iv.out.size))
  have jt:Hid (NumOr oO ae none):=lH (NumOr.under lR ab)
  clear ab
  clear iv lR
  go_simp
  refine hK.out _ _ (dV.out) (fun hHeld=>?_)
  clear hK K
  try simp only [aP]
  refine rdy 7 ⟨some 60,.call ⟨ .value (.func 56),#[.tmp 58,.tmp 59],#[67,67]⟩,67,_,_,none⟩ rfl (fun K hK=>?_)
  go_simp
  refine (mulE oO (bv.out.under dV) yy yy bc bc (by rw [←ph.out];exact mn.out)).mono ?_
  rintro e mG ⟨rfl,ab⟩
  have cH:=lH (dV.out.trans (ab.mono dV.out.size))
  have iN:Hid (NumOr mG ae none):=lH (NumOr.under jt ab)
  clear ab
  clear dV jt
  go_simp
  refine hK.out _ _ (cH.out) (fun hHeld=>?_)
  clear hK K
  try simp only [aP]
  refine rdy 8 ⟨some 61,.call ⟨ .value (.func 78),#[.tmp 60],#[67]⟩,67,_,_,none⟩ rfl (fun K hK=>?_)
  go_simp
  refine (twiceE mG (bv.out.under cH) ga mn (by rw [←ou.out];exact kR.out)).mono ?_
  rintro e l_ ⟨rfl,ab⟩
  have bG:=lH (cH.out.trans (ab.mono cH.out.size))
  have fi:Hid (NumOr l_ ae none):=lH (NumOr.under iN ab)
  clear ab
  clear cH iN
  go_simp
  refine hK.out _ _ (bG.out) (fun hHeld=>?_)
  clear hK K
  try simp only [aP]
  refine rdy 9 ⟨some 62,.call ⟨ .value (.func 78),#[.tmp 61],#[67]⟩,67,_,_,none⟩ rfl (fun K hK=>?_)
  go_simp
  refine (twiceE l_ (bv.out.under bG) gb kR (by rw [←nZ.out];exact kn.out)).mono ?_
  rintro e jN ⟨rfl,ab⟩
  have ba:=lH (bG.out.trans (ab.mono bG.out.size))
  have dK:Hid (NumOr jN ae none):=lH (NumOr.under fi ab)
  clear ab
  clear bG fi
  go_simp
  refine hK.out _ _ (ba.out) (fun hHeld=>?_)
  clear hK K
  try simp only [aP]
  refine rdy 10 ⟨some 63,.call ⟨ .value (.func 78),#[.tmp 62],#[67]⟩,67,_,_,none⟩ rfl (fun K hK=>?_)
  go_simp
  refine (twiceE jN (bv.out.under ba) gd kn (by rw [←nG.out];exact jk.out)).mono ?_
  rintro e iI ⟨rfl,ab⟩
  have aU:=lH (ba.out.trans (ab.mono ba.out.size))
  have cV:Hid (NumOr iI ae none):=lH (NumOr.under dK ab)
  clear ab
  clear ba dK
  go_simp
  refine hK.out _ _ (aU.out) (fun hHeld=>?_)
  clear hK K
  try simp only [aP]
  refine rdy 11 ⟨some 64,.call ⟨ .value (.func 55),#[.tmp 57,.tmp 63],#[67,67]⟩,67,_,_,none⟩ rfl (fun K hK=>?_)
  go_simp
  refine (subE iI (bv.out.under aU) af ge kP jk (by rw [←EY.out];exact HY.out)).mono ?_
  rintro e fw ⟨rfl,ab⟩
  have bC:=lH (aU.out.trans (ab.mono aU.out.size))
  have bt:Hid (NumOr fw ae none):=lH (NumOr.under cV ab)
  clear ab
  clear aU cV
  go_simp
  refine hK.out _ _ (bC.out) (fun hHeld=>?_)
  clear hK K
  try simp only [aP]
  refine rdy 13 ⟨none,.store 67 (.tmp 10) (.tmp 64),0,_,_,none⟩ rfl (fun K hK=>?_)
  obtain ⟨am,av,au,ao,⟨z0,o0⟩,⟨z1,o1⟩,⟨z2,o2⟩,⟨z3,o3⟩⟩:=NumOr.facts bt.out
  obtain ⟨ed,hN⟩:∃ W,W=((((fw.setCell ⟨ae,0,none⟩ (.int .u64 (Y0:Int))).setCell ⟨ae,1,none⟩ (.int .u64 (Y1:Int))).setCell ⟨ae,2,none⟩ (.int .u64 (Y2:Int))).setCell ⟨ae,3,none⟩ (.int .u64 (Y3:Int))):=⟨_,rfl⟩
  go_simp
  rw [←hN]
  have eP:Hid (NumOr ed ae (some (en Y))):=lH (by rw [hN];exact NumOr.set bt HY)
  have b_:=lH (by rw [hN];exact below4 bC aO _ _ _ _:Below u7.heap.size u7 ed)
  clear hN z0 o0 z1 o1 z2 o2 z3 o3 am av au ao
  clear bC bt
  refine hK.out _ _ (b_.out) (fun hHeld=>?_)
  clear hK K
  try simp only [aP]
  refine dn ?_
  rw [mg.out]
  exact ⟨rfl,ae,rfl,rfl,HF _ b_,eP,az⟩
 rintro e a u8 hq
 rw [mg.out] at hq
 obtain ⟨rfl,ae,bN,ee,dC⟩:=hq
 have ks:=lH dC
 clear dC mg d7
 obtain ⟨tm,df⟩:=a
 dsimp only at bN ee
 subst ee
 obtain ⟨U,hU⟩:∃ U:Nat→Value,∀ i,tm.getD i undef=U i:=⟨_,fun _=>rfl⟩
 simp only [tG,hU] at bN
 clear hU
 subst bN
 go_step
 go_step
 (repeat (first | (apply wp_seq_k;intro _ _) | apply wp_block))
 have rJ:=lH (ks.out.1.1.1.1.2.1)
 have qN:=lH (ks.out.1.1.1.1.2.2.1)
 have oV:=lH (ks.out.1.1.1.1.2.2.2.2.1)
 have om:=lH (ks.out.1.1.1.1.2.2.2.2.2.1)
 have aV:=lH (ks.out.1.1.1.1.2.2.2.2.2.2.1)
 have aW:=lH (ks.out.1.1.1.1.2.2.2.2.2.2.2.1)
 have oZ:=lH (ks.out.1.1.2.1)
 have kF:=lH (ks.out.1.1.2.2)
 have oo:=lH (ks.out.1.2.1)
 have nE:=lH (ks.out.1.2.2)
 have mC:=lH (ks.out.2.1)
 have oG:=lH (ks.out.2.2)
 have ku:=lH (FV.out.1)
 have rT:=lH (FV.out.2.2.2.2.2.2.2.2.2.2.2.2.2.2.2.2.2.2.2.2.2.2.2.2.2.1)
 have r7:=lH (FV.out.2.2.2.2.2.2.2.2.2.2.2.2.2.2.2.2.2.2.2.2.2.2.2.2.2.2.1)
 have EZ:=lH (FV.out.2.2.2.2.2.2.2.2.2.2.2.2.2.2.2.2.2.2.2.2.2.2.2.2.2.2.2.1)
 have cL:=lH (FV.out.2.2.2.2.2.2.2.2.2.2.2.2.2.2.2.2.2.2.2.2.2.2.2.2.2.2.2.2.1)
 have bc:=lH (FV.out.2.2.2.2.2.2.2.2.2.2.2.2.2.2.2.2.2.2.2.2.2.2.2.2.2.2.2.2.2.1)
 have nQ:=lH (FV.out.2.2.2.2.2.2.2.2.2.2.2.2.2.2.2.2.2.2.2.2.2.2.2.2.2.2.2.2.2.2.2.2.2.2.2.2.2.2.1)
 have HX:=lH (FV.out.2.2.2.2.2.2.2.2.2.2.2.2.2.2.2.2.2.2.2.2.2.2.2.2.2.2.2.2.2.2.2.2.2.2.2.2.2.2.2.2.2.1)
 have HY:=lH (FV.out.2.2.2.2.2.2.2.2.2.2.2.2.2.2.2.2.2.2.2.2.2.2.2.2.2.2.2.2.2.2.2.2.2.2.2.2.2.2.2.2.2.2.2.2.2.2.2.2.1)
 have qU:=lH (FV.out.2.2.2.2.2.2.2.2.2.2.2.2.2.2.2.2.2.2.2.2.2.2.2.2.2.2.2.2.2.2.2.2.2.2.2.2.2.2.2.2.2.2.2.2.2.2.2.2.2.1)
 have qV:=lH (FV.out.2.2.2.2.2.2.2.2.2.2.2.2.2.2.2.2.2.2.2.2.2.2.2.2.2.2.2.2.2.2.2.2.2.2.2.2.2.2.2.2.2.2.2.2.2.2.2.2.2.2.1)
 have HZ:=lH (FV.out.2.2.2.2.2.2.2.2.2.2.2.2.2.2.2.2.2.2.2.2.2.2.2.2.2.2.2.2.2.2.2.2.2.2.2.2.2.2.2.2.2.2.2.2.2.2.2.2.2.2.2)
 clear ks FV
 refine wp_region_noPanic ?_
 refine wp_region_held_drew (S:=fun W=>NumOr W ae (some (en Y))∧NumOr W g3 (some (en zz))∧NumOr W g4 (some (en yy))∧NumOr W g8 (some (en yz))∧NumOr W g9 (some (en X))∧Below w.heap.size w W) (by kernel_rfl) (⟨NumOr.drew mC.out,NumOr.drew oV.out,NumOr.drew om.out,NumOr.drew oZ.out,NumOr.drew oo.out,qN.out.drew⟩) (fun hHeld=>?_)
 obtain ⟨V,hV⟩:∃ W,W=u8.drew:=⟨_,rfl⟩
 rw [←hV]
 have aw:Hid ((fun W=>NumOr W ae (some (en Y))∧NumOr W g3 (some (en zz))∧NumOr W g4 (some (en yy))∧NumOr W g8 (some (en yz))∧NumOr W g9 (some (en X))∧Below w.heap.size w W) V):=lH (by rw [hV];exact ⟨NumOr.drew mC,NumOr.drew oV,NumOr.drew om,NumOr.drew oZ,NumOr.drew oo,qN.out.drew⟩)
 have rk:Hid (Holds V (w.heap.size+1) 69 #[.int .u64 0,.int .u64 0,.int .u64 0,.int .u64 0,.int .u64 0,.int .u64 0,.int .u64 0,.int .u64 0,.int .u64 0,.int .u64 0,.int .u64 0,.int .u64 0]):=lH (by rw [hV];exact rJ.out)
 replace hHeld:(fun W=>NumOr W ae (some (en Y))∧NumOr W g3 (some (en zz))∧NumOr W g4 (some (en yy))∧NumOr W g8 (some (en yz))∧NumOr W g9 (some (en X))∧Below w.heap.size w W) V:=aw.out
 clear hV
 refine tk 0 ⟨some 65,.load 67 (.tmp 9),67,_,_,none⟩ ?_ rfl ?_ hHeld ?_
 rotate_left 1
 ·(intro W hW;have bO:=hW.2.2.2.2.1.cells HX.out;obtain ⟨q0,q1,q2,q3⟩:=bO;(try dsimp only at hW);go_simp;try with_reducible rfl)
 try simp only [aP]
 refine tk 1 ⟨some 66,.load 67 (.tmp 10),67,_,_,none⟩ ?_ rfl ?_ hHeld ?_
 rotate_left 1
 ·(intro W hW;have bO:=hW.1.cells HY.out;obtain ⟨q0,q1,q2,q3⟩:=bO;(try dsimp only at hW);go_simp;try with_reducible rfl)
 try simp only [aP]
 refine tk 2 ⟨some 67,.load 67 (.tmp 8),67,_,_,none⟩ ?_ rfl ?_ hHeld ?_
 rotate_left 1
 ·(intro W hW;have bO:=hW.2.2.2.1.cells nQ.out;obtain ⟨q0,q1,q2,q3⟩:=bO;(try dsimp only at hW);go_simp;try with_reducible rfl)
 try simp only [aP]
 refine tk 3 ⟨some 68,.load 67 (.tmp 8),67,_,_,none⟩ ?_ rfl ?_ hHeld ?_
 rotate_left 1
 ·(intro W hW;have bO:=hW.2.2.2.1.cells nQ.out;obtain ⟨q0,q1,q2,q3⟩:=bO;(try dsimp only at hW);go_simp;try with_reducible rfl)
 try simp only [aP]
 refine tk 5 ⟨some 70,.load 67 (.tmp 4),67,_,_,none⟩ ?_ rfl ?_ hHeld ?_
 rotate_left 1
 ·(intro W hW;have bO:=hW.2.2.1.cells bc.out;obtain ⟨q0,q1,q2,q3⟩:=bO;(try dsimp only at hW);go_simp;try with_reducible rfl)
 try simp only [aP]
 refine tk 7 ⟨some 72,.load 67 (.tmp 3),67,_,_,none⟩ ?_ rfl ?_ hHeld ?_
 rotate_left 1
 ·(intro W hW;have bO:=hW.2.1.cells cL.out;obtain ⟨q0,q1,q2,q3⟩:=bO;(try dsimp only at hW);go_simp;try with_reducible rfl)
 try simp only [aP]
 refine rdy 4 ⟨some 69,.call ⟨ .value (.func 56),#[.tmp 67,.tmp 68],#[67,67]⟩,67,_,_,none⟩ rfl (fun K hK=>?_)
 go_simp
 refine (mulE V (ku.out.under aw.out.2.2.2.2.2) yz yz nQ nQ (by rw [←rT.out];exact qU.out)).mono ?_
 rintro e V1 ⟨rfl,ab⟩
 have ai:Hid ((fun W=>NumOr W ae (some (en Y))∧NumOr W g3 (some (en zz))∧NumOr W g4 (some (en yy))∧NumOr W g8 (some (en yz))∧NumOr W g9 (some (en X))∧Below w.heap.size w W) V1):=lH ⟨NumOr.under aw.out.1 ab,NumOr.under aw.out.2.1 ab,NumOr.under aw.out.2.2.1 ab,NumOr.under aw.out.2.2.2.1 ab,NumOr.under aw.out.2.2.2.2.1 ab,aw.out.2.2.2.2.2.trans (ab.mono aw.out.2.2.2.2.2.size)⟩
 have ox:=lH (rk.out.under ab (Holds.lt rk))
 clear ab
 go_simp
 refine hK.out _ _ (ai.out) (fun hHeld=>?_)
 clear hK K
 try simp only [aP]
 refine rdy 6 ⟨some 71,.call ⟨ .value (.func 55),#[.tmp 69,.tmp 70],#[67,67]⟩,67,_,_,none⟩ rfl (fun K hK=>?_)
 go_simp
 refine (subE V1 (ku.out.under ai.out.2.2.2.2.2) za yy qU bc (by rw [←r7.out];exact qV.out)).mono ?_
 rintro e V2 ⟨rfl,ab⟩
 have ac:Hid ((fun W=>NumOr W ae (some (en Y))∧NumOr W g3 (some (en zz))∧NumOr W g4 (some (en yy))∧NumOr W g8 (some (en yz))∧NumOr W g9 (some (en X))∧Below w.heap.size w W) V2):=lH ⟨NumOr.under ai.out.1 ab,NumOr.under ai.out.2.1 ab,NumOr.under ai.out.2.2.1 ab,NumOr.under ai.out.2.2.2.1 ab,NumOr.under ai.out.2.2.2.2.1 ab,ai.out.2.2.2.2.2.trans (ab.mono ai.out.2.2.2.2.2.size)⟩
 have oJ:=lH (ox.out.under ab (Holds.lt ox))
 clear ab
 go_simp
 refine hK.out _ _ (ac.out) (fun hHeld=>?_)
 clear hK K
 try simp only [aP]
 refine rdy 8 ⟨some 73,.call ⟨ .value (.func 55),#[.tmp 71,.tmp 72],#[67,67]⟩,67,_,_,none⟩ rfl (fun K hK=>?_)
 go_simp
 refine (subE V2 (ku.out.under ac.out.2.2.2.2.2) zb zz qV cL (by rw [←EZ.out];exact HZ.out)).mono ?_
 rintro e V3 ⟨rfl,ab⟩
 have aA:Hid ((fun W=>NumOr W ae (some (en Y))∧NumOr W g3 (some (en zz))∧NumOr W g4 (some (en yy))∧NumOr W g8 (some (en yz))∧NumOr W g9 (some (en X))∧Below w.heap.size w W) V3):=lH ⟨NumOr.under ac.out.1 ab,NumOr.under ac.out.2.1 ab,NumOr.under ac.out.2.2.1 ab,NumOr.under ac.out.2.2.2.1 ab,NumOr.under ac.out.2.2.2.2.1 ab,ac.out.2.2.2.2.2.trans (ab.mono ac.out.2.2.2.2.2.size)⟩
 have aE:=lH (oJ.out.under ab (Holds.lt oJ))
 clear ab
 go_simp
 refine hK.out _ _ (aA.out) (fun hHeld=>?_)
 clear hK K
 try simp only [aP]
 refine tz 9 ⟨some 74,.build 69 #[(0,.tmp 65),(1,.tmp 66),(2,.tmp 73)],69,_,_,none⟩ rfl hHeld ?_
 try simp only [aP]
 refine rdy 10 ⟨none,.store 69 (.tmp 2) (.tmp 74),0,_,_,none⟩ rfl (fun K hK=>?_)
 have rS:=aE.out.cell 0
 have tq:=aE.out.open_ 0
 have rC:=aE.out.cell 1
 have r_:=aE.out.open_ 1
 have tb:=aE.out.cell 2
 have sC:=aE.out.open_ 2
 have sf:=aE.out.cell 3
 have sZ:=aE.out.open_ 3
 have ru:=aE.out.cell 4
 have tl:=aE.out.open_ 4
 have s5:=aE.out.cell 5
 have tF:=aE.out.open_ 5
 have rz:=aE.out.cell 6
 have sQ:=aE.out.open_ 6
 have sm:=aE.out.cell 7
 have tf:=aE.out.open_ 7
 have sI:=aE.out.cell 8
 have sU:=aE.out.open_ 8
 have sw:=aE.out.cell 9
 have rX:=aE.out.open_ 9
 have pT:=aE.out.cell 10
 have qi:=aE.out.open_ 10
 have pK:=aE.out.cell 11
 have qH:=aE.out.open_ 11
 obtain ⟨VL,hN⟩:∃ W,W=((((((((((((V3.setCell ⟨w.heap.size+1,0,none⟩ (.int .u64 (X0:Int))).setCell ⟨w.heap.size+1,1,none⟩ (.int .u64 (X1:Int))).setCell ⟨w.heap.size+1,2,none⟩ (.int .u64 (X2:Int))).setCell ⟨w.heap.size+1,3,none⟩ (.int .u64 (X3:Int))).setCell ⟨w.heap.size+1,4,none⟩ (.int .u64 (Y0:Int))).setCell ⟨w.heap.size+1,5,none⟩ (.int .u64 (Y1:Int))).setCell ⟨w.heap.size+1,6,none⟩ (.int .u64 (Y2:Int))).setCell ⟨w.heap.size+1,7,none⟩ (.int .u64 (Y3:Int))).setCell ⟨w.heap.size+1,8,none⟩ (.int .u64 (Z0:Int))).setCell ⟨w.heap.size+1,9,none⟩ (.int .u64 (Z1:Int))).setCell ⟨w.heap.size+1,10,none⟩ (.int .u64 (Z2:Int))).setCell ⟨w.heap.size+1,11,none⟩ (.int .u64 (Z3:Int))):=⟨_,rfl⟩
 go_simp
 rw [←hN]
 have rG:Hid (Holds VL (w.heap.size+1) 69 #[.int .u64 (X0:Int),.int .u64 (X1:Int),.int .u64 (X2:Int),.int .u64 (X3:Int),.int .u64 (Y0:Int),.int .u64 (Y1:Int),.int .u64 (Y2:Int),.int .u64 (Y3:Int),.int .u64 (Z0:Int),.int .u64 (Z1:Int),.int .u64 (Z2:Int),.int .u64 (Z3:Int)]):=lH (by rw [hN];exact set12 aE _ _ _ _ _ _ _ _ _ _ _ _)
 have rj:Hid (Below w.heap.size w VL):=lH (by rw [hN];exact below12 aA.out.2.2.2.2.2 (by omega) _ _ _ _ _ _ _ _ _ _ _ _)
 have st:Hid ((fun W=>NumOr W ae (some (en Y))∧NumOr W g3 (some (en zz))∧NumOr W g4 (some (en yy))∧NumOr W g8 (some (en yz))∧NumOr W g9 (some (en X))∧Below w.heap.size w W) VL):=lH ⟨by rw [hN];exact holds_aside12 aA.out.1 (k:=w.heap.size+1) (by have:=oG.out;omega) _ _ _ _ _ _ _ _ _ _ _ _,by rw [hN];exact holds_aside12 aA.out.2.1 (k:=w.heap.size+1) (by have:=aV.out;omega) _ _ _ _ _ _ _ _ _ _ _ _,by rw [hN];exact holds_aside12 aA.out.2.2.1 (k:=w.heap.size+1) (by have:=aW.out;omega) _ _ _ _ _ _ _ _ _ _ _ _,by rw [hN];exact holds_aside12 aA.out.2.2.2.1 (k:=w.heap.size+1) (by have:=kF.out;omega) _ _ _ _ _ _ _ _ _ _ _ _,by rw [hN];exact holds_aside12 aA.out.2.2.2.2.1 (k:=w.heap.size+1) (by have:=nE.out;omega) _ _ _ _ _ _ _ _ _ _ _ _,rj⟩
 clear hN rS tq rC r_ tb sC sf sZ ru tl s5 tF rz sQ sm tf sI sU sw rX pT qi pK qH
 refine hK.out _ _ (st.out) (fun hHeld=>?_)
 clear hK K
 try simp only [aP]
 refine dn ?_
 go_wp2_with fail
 exact ret_wd (g:=w.heap.size+1) rfl rfl rG rfl ⟨rfl,rj⟩
end Go.Proofs.YtflfdglpljodbaaDoor
