/-
  A wide point, twice.
-/
import Derived.Test.YtflfdglpljodbaaDoorWCvD
set_option maxRecDepth 100000
set_option maxHeartbeats 40000000
namespace Go.Proofs.YtflfdglpljodbaaDoor
open Go.RowKit
set_option linter.unusedVariables false
set_option linter.unusedSimpArgs false
theorem holds_aside4 {w:World} {g k:Nat} {t:TypeId} {cs:Array Value} (h:Holds w g t cs) (hne:g≠k) (p q r s:Value):Holds ((((w.setCell ⟨k,0,none⟩ p).setCell ⟨k,1,none⟩ q).setCell ⟨k,2,none⟩ r).setCell ⟨k,3,none⟩ s) g t cs :=
 Holds.aside (Holds.aside (Holds.aside (Holds.aside h (p:=⟨k,0,none⟩) hne p) (p:=⟨k,1,none⟩) hne q) (p:=⟨k,2,none⟩) hne r) (p:=⟨k,3,none⟩) hne s
theorem holds_aside12 {w:World} {g k:Nat} {t:TypeId} {cs:Array Value} (h:Holds w g t cs) (hne:g≠k) (p0 p1 p2 p3 p4 p5 p6 p7 p8 p9 p10 p11:Value):Holds ((((((((((((w.setCell ⟨k,0,none⟩ p0).setCell ⟨k,1,none⟩ p1).setCell ⟨k,2,none⟩ p2).setCell ⟨k,3,none⟩ p3).setCell ⟨k,4,none⟩ p4).setCell ⟨k,5,none⟩ p5).setCell ⟨k,6,none⟩ p6).setCell ⟨k,7,none⟩ p7).setCell ⟨k,8,none⟩ p8).setCell ⟨k,9,none⟩ p9).setCell ⟨k,10,none⟩ p10).setCell ⟨k,11,none⟩ p11) g t cs :=
 (Holds.aside (Holds.aside (Holds.aside (Holds.aside (Holds.aside (Holds.aside (Holds.aside (Holds.aside (Holds.aside (Holds.aside (Holds.aside (Holds.aside h (p:=⟨k,0,none⟩) hne p0) (p:=⟨k,1,none⟩) hne p1) (p:=⟨k,2,none⟩) hne p2) (p:=⟨k,3,none⟩) hne p3) (p:=⟨k,4,none⟩) hne p4) (p:=⟨k,5,none⟩) hne p5) (p:=⟨k,6,none⟩) hne p6) (p:=⟨k,7,none⟩) hne p7) (p:=⟨k,8,none⟩) hne p8) (p:=⟨k,9,none⟩) hne p9) (p:=⟨k,10,none⟩) hne p10) (p:=⟨k,11,none⟩) hne p11)
theorem doubleE (w:World) (hm:CMet w) (j:Luc.Jc) {x0 x1 x2 x3 y0 y1 y2 y3 z0 z1 z2 z3 X0 X1 X2 X3 Y0 Y1 Y2 Y3 Z0 Z1 Z2 Z3:Nat} (hx:nm (en j.x)=[x0,x1,x2,x3]) (hy:nm (en j.y)=[y0,y1,y2,y3]) (hz:nm (en j.z)=[z0,z1,z2,z3])
  (hX0:nm (en (Luc.dbl j).x)=[X0,X1,X2,X3]) (hY0:nm (en (Luc.dbl j).y)=[Y0,Y1,Y2,Y3]) (hZ0:nm (en (Luc.dbl j).z)=[Z0,Z1,Z2,Z3]) :
  Calls Tryd.prog 63 #[.agg #[.int .u64 (x0:Int),.int .u64 (x1:Int),.int .u64 (x2:Int),.int .u64 (x3:Int),.int .u64 (y0:Int),.int .u64 (y1:Int),.int .u64 (y2:Int),.int .u64 (y3:Int),.int .u64 (z0:Int),.int .u64 (z1:Int),.int .u64 (z2:Int),.int .u64 (z3:Int)]] w fun e w'=>e = .returned (.agg #[.int .u64 (X0:Int),.int .u64 (X1:Int),.int .u64 (X2:Int),.int .u64 (X3:Int),.int .u64 (Y0:Int),.int .u64 (Y1:Int),.int .u64 (Y2:Int),.int .u64 (Y3:Int),.int .u64 (Z0:Int),.int .u64 (Z1:Int),.int .u64 (Z2:Int),.int .u64 (Z3:Int)])∧Below w.heap.size w w':=by
 obtain ⟨zz,hzz⟩:∃ v,v=j.z*j.z:=⟨_,rfl⟩
 obtain ⟨yy,hyy⟩:∃ v,v=j.y*j.y:=⟨_,rfl⟩
 obtain ⟨xyy,hxyy⟩:∃ v,v=j.x*yy:=⟨_,rfl⟩
 obtain ⟨da,hda⟩:∃ v,v=j.x - zz:=⟨_,rfl⟩
 obtain ⟨db,hdb⟩:∃ v,v=j.x+zz:=⟨_,rfl⟩
 obtain ⟨a1,ha1⟩:∃ v,v=da*db:=⟨_,rfl⟩
 obtain ⟨a2,ha2⟩:∃ v,v=a1+a1:=⟨_,rfl⟩
 obtain ⟨a3,ha3⟩:∃ v,v=a1+a2:=⟨_,rfl⟩
 obtain ⟨t1,ht1⟩:∃ v,v=xyy+xyy:=⟨_,rfl⟩
 obtain ⟨fo,hfo⟩:∃ v,v=t1+t1:=⟨_,rfl⟩
 obtain ⟨yz,hyz⟩:∃ v,v=j.y+j.z:=⟨_,rfl⟩
 obtain ⟨aa,haa⟩:∃ v,v=a3*a3:=⟨_,rfl⟩
 obtain ⟨ff,hff⟩:∃ v,v=fo+fo:=⟨_,rfl⟩
 obtain ⟨X,hX⟩:∃ v,v=aa - ff:=⟨_,rfl⟩
 obtain ⟨fx,hfx⟩:∃ v,v=fo - X:=⟨_,rfl⟩
 obtain ⟨af,haf⟩:∃ v,v=a3*fx:=⟨_,rfl⟩
 obtain ⟨ga,hga⟩:∃ v,v=yy*yy:=⟨_,rfl⟩
 obtain ⟨gb,hgb⟩:∃ v,v=ga+ga:=⟨_,rfl⟩
 obtain ⟨gd,hgd⟩:∃ v,v=gb+gb:=⟨_,rfl⟩
 obtain ⟨ge,hge⟩:∃ v,v=gd+gd:=⟨_,rfl⟩
 obtain ⟨Y,hY⟩:∃ v,v=af - ge:=⟨_,rfl⟩
 obtain ⟨za,hza⟩:∃ v,v=yz*yz:=⟨_,rfl⟩
 obtain ⟨zb,hzb⟩:∃ v,v=za - yy:=⟨_,rfl⟩
 obtain ⟨Z,hZ⟩:∃ v,v=zb - zz:=⟨_,rfl⟩
 obtain ⟨zz0,zz1,zz2,zz3,dg_zz⟩:=four (nm_len (en zz))
 obtain ⟨yy0,yy1,yy2,yy3,dg_yy⟩:=four (nm_len (en yy))
 obtain ⟨xyy0,xyy1,xyy2,xyy3,dg_xyy⟩:=four (nm_len (en xyy))
 obtain ⟨da0,da1,da2,da3,dg_da⟩:=four (nm_len (en da))
 obtain ⟨db0,db1,db2,db3,dg_db⟩:=four (nm_len (en db))
 obtain ⟨a10,a11,a12,a13,dg_a1⟩:=four (nm_len (en a1))
 obtain ⟨a20,a21,a22,a23,dg_a2⟩:=four (nm_len (en a2))
 obtain ⟨a30,a31,a32,a33,dg_a3⟩:=four (nm_len (en a3))
 obtain ⟨t10,t11,t12,t13,dg_t1⟩:=four (nm_len (en t1))
 obtain ⟨fo0,fo1,fo2,fo3,dg_fo⟩:=four (nm_len (en fo))
 obtain ⟨yz0,yz1,yz2,yz3,dg_yz⟩:=four (nm_len (en yz))
 obtain ⟨aa0,aa1,aa2,aa3,dg_aa⟩:=four (nm_len (en aa))
 obtain ⟨ff0,ff1,ff2,ff3,dg_ff⟩:=four (nm_len (en ff))
 obtain ⟨fx0,fx1,fx2,fx3,dg_fx⟩:=four (nm_len (en fx))
 obtain ⟨af0,af1,af2,af3,dg_af⟩:=four (nm_len (en af))
 obtain ⟨ga0,ga1,ga2,ga3,dg_ga⟩:=four (nm_len (en ga))
 obtain ⟨gb0,gb1,gb2,gb3,dg_gb⟩:=four (nm_len (en gb))
 obtain ⟨gd0,gd1,gd2,gd3,dg_gd⟩:=four (nm_len (en gd))
 obtain ⟨ge0,ge1,ge2,ge3,dg_ge⟩:=four (nm_len (en ge))
 obtain ⟨za0,za1,za2,za3,dg_za⟩:=four (nm_len (en za))
 obtain ⟨zb0,zb1,zb2,zb3,dg_zb⟩:=four (nm_len (en zb))
 have dg_X:nm (en X)=[X0,X1,X2,X3]:=by rw [←hX0];congr 2;rw [hX,haa,hff,hfo,ht1,ha3,ha2,ha1,hda,hdb,hxyy,hyy,hzz];rfl
 have dg_Y:nm (en Y)=[Y0,Y1,Y2,Y3]:=by rw [←hY0];congr 2;rw [hY,haf,hfx,hX,haa,hff,hfo,ht1,ha3,ha2,ha1,hda,hdb,hxyy,hge,hgd,hgb,hga,hyy,hzz];rfl
 have dg_Z:nm (en Z)=[Z0,Z1,Z2,Z3]:=by rw [←hZ0];congr 2;rw [hZ,hzb,hza,hyz,hyy,hzz];rfl
 have FV:Hid ((CMet w)∧(nm (en j.x)=[x0,x1,x2,x3])∧(nm (en j.y)=[y0,y1,y2,y3])∧(nm (en j.z)=[z0,z1,z2,z3])∧(zz=j.z*j.z)∧(yy=j.y*j.y)∧(xyy=j.x*yy)∧(da=j.x - zz)∧(db=j.x+zz)∧(a1=da*db)∧(a2=a1+a1)∧(a3=a1+a2)∧(t1=xyy+xyy)∧(fo=t1+t1)∧(yz=j.y+j.z)∧(aa=a3*a3)∧(ff=fo+fo)∧(X=aa - ff)∧(fx=fo - X)∧(af=a3*fx)∧(ga=yy*yy)∧(gb=ga+ga)∧(gd=gb+gb)∧(ge=gd+gd)∧(Y=af - ge)∧(za=yz*yz)∧(zb=za - yy)∧(Z=zb - zz)∧(nm (en zz)=[zz0,zz1,zz2,zz3])∧(nm (en yy)=[yy0,yy1,yy2,yy3])∧(nm (en xyy)=[xyy0,xyy1,xyy2,xyy3])∧(nm (en da)=[da0,da1,da2,da3])∧(nm (en db)=[db0,db1,db2,db3])∧(nm (en a1)=[a10,a11,a12,a13])∧(nm (en a2)=[a20,a21,a22,a23])∧(nm (en a3)=[a30,a31,a32,a33])∧(nm (en t1)=[t10,t11,t12,t13])∧(nm (en fo)=[fo0,fo1,fo2,fo3])∧(nm (en yz)=[yz0,yz1,yz2,yz3])∧(nm (en aa)=[aa0,aa1,aa2,aa3])∧(nm (en ff)=[ff0,ff1,ff2,ff3])∧(nm (en X)=[X0,X1,X2,X3])∧(nm (en fx)=[fx0,fx1,fx2,fx3])∧(nm (en af)=[af0,af1,af2,af3])∧(nm (en ga)=[ga0,ga1,ga2,ga3])∧(nm (en gb)=[gb0,gb1,gb2,gb3])∧(nm (en gd)=[gd0,gd1,gd2,gd3])∧(nm (en ge)=[ge0,ge1,ge2,ge3])∧(nm (en Y)=[Y0,Y1,Y2,Y3])∧(nm (en za)=[za0,za1,za2,za3])∧(nm (en zb)=[zb0,zb1,zb2,zb3])∧(nm (en Z)=[Z0,Z1,Z2,Z3])):=lH ⟨hm,hx,hy,hz,hzz,hyy,hxyy,hda,hdb,ha1,ha2,ha3,ht1,hfo,hyz,haa,hff,hX,hfx,haf,hga,hgb,hgd,hge,hY,hza,hzb,hZ,dg_zz,dg_yy,dg_xyy,dg_da,dg_db,dg_a1,dg_a2,dg_a3,dg_t1,dg_fo,dg_yz,dg_aa,dg_ff,dg_X,dg_fx,dg_af,dg_ga,dg_gb,dg_gd,dg_ge,dg_Y,dg_za,dg_zb,dg_Z⟩
 clear hX0 hY0 hZ0 hx hy hz hzz hyy hxyy hda hdb ha1 ha2 ha3 ht1 hfo hyz haa hff hX hfx haf hga hgb hgd hge hY hza hzb hZ dg_zz dg_yy dg_xyy dg_da dg_db dg_a1 dg_a2 dg_a3 dg_t1 dg_fo dg_yz dg_aa dg_ff dg_X dg_fx dg_af dg_ga dg_gb dg_gd dg_ge dg_Y dg_za dg_zb dg_Z
 obtain ⟨w1,hw1⟩:∃ W,W=w.alloc (.cells #[.int .u64 (x0:Int),.int .u64 (x1:Int),.int .u64 (x2:Int),.int .u64 (x3:Int),.int .u64 (y0:Int),.int .u64 (y1:Int),.int .u64 (y2:Int),.int .u64 (y3:Int),.int .u64 (z0:Int),.int .u64 (z1:Int),.int .u64 (z2:Int),.int .u64 (z3:Int)] 69):=⟨_,rfl⟩
 have hz1:w1.heap.size=w.heap.size+1:=by rw [hw1];simp
 have hb1:Below w.heap.size w w1:=by rw [hw1];exact (Below.refl _ _).alloc (Nat.le_refl _) _
 obtain ⟨u0,hw2⟩:∃ W,W=w1.alloc (.cells #[.int .u64 0,.int .u64 0,.int .u64 0,.int .u64 0,.int .u64 0,.int .u64 0,.int .u64 0,.int .u64 0,.int .u64 0,.int .u64 0,.int .u64 0,.int .u64 0] 69):=⟨_,rfl⟩
 have hb2:Below w.heap.size w u0:=by rw [hw2];exact hb1.alloc hb1.size _
 have ST0:Hid ((Holds u0 w.heap.size 69 #[.int .u64 (x0:Int),.int .u64 (x1:Int),.int .u64 (x2:Int),.int .u64 (x3:Int),.int .u64 (y0:Int),.int .u64 (y1:Int),.int .u64 (y2:Int),.int .u64 (y3:Int),.int .u64 (z0:Int),.int .u64 (z1:Int),.int .u64 (z2:Int),.int .u64 (z3:Int)])∧(Holds u0 (w.heap.size+1) 69 #[.int .u64 0,.int .u64 0,.int .u64 0,.int .u64 0,.int .u64 0,.int .u64 0,.int .u64 0,.int .u64 0,.int .u64 0,.int .u64 0,.int .u64 0,.int .u64 0])∧(Below w.heap.size w u0)∧(CMet u0)):=lH ⟨by rw [hw2,hw1];exact (Holds.fresh w _ _).alloc _,by rw [hw2,←hz1];exact Holds.fresh w1 _ _,hb2,hm.under hb2⟩
 have HW:=lH (hw1 ▸ hw2:u0=(w.alloc (.cells #[.int .u64 (x0:Int),.int .u64 (x1:Int),.int .u64 (x2:Int),.int .u64 (x3:Int),.int .u64 (y0:Int),.int .u64 (y1:Int),.int .u64 (y2:Int),.int .u64 (y3:Int),.int .u64 (z0:Int),.int .u64 (z1:Int),.int .u64 (z2:Int),.int .u64 (z3:Int)] 69)).alloc (.cells #[.int .u64 0,.int .u64 0,.int .u64 0,.int .u64 0,.int .u64 0,.int .u64 0,.int .u64 0,.int .u64 0,.int .u64 0,.int .u64 0,.int .u64 0,.int .u64 0] 69))
 clear hm hw1 hz1 hb1 hw2 hb2
 go_enter Tryd.func63,Tryd.ntmps63
 go_wp2_with fail
 rw [←HW.out]
 clear HW
 obtain ⟨QQ1,HQ1⟩:∃ Q:Exit→Act→World→Prop,Hid (Q=fun e a W=>e = .normal∧∃ (g3 g4:Nat),a.tmps=#[tG a 0,.pointer (some ⟨w.heap.size,0,none⟩),.pointer (some ⟨w.heap.size+1,0,none⟩),.pointer (some ⟨g3,0,none⟩),.pointer (some ⟨g4,0,none⟩),tG a 5,tG a 6,tG a 7,tG a 8,tG a 9,tG a 10,tG a 11,tG a 12,tG a 13,tG a 14,tG a 15,tG a 16,tG a 17,tG a 18,tG a 19,tG a 20,tG a 21,tG a 22,tG a 23,tG a 24,tG a 25,tG a 26,tG a 27,tG a 28,tG a 29,tG a 30,tG a 31,tG a 32,tG a 33,tG a 34,tG a 35,tG a 36,tG a 37,tG a 38,tG a 39,tG a 40,tG a 41,tG a 42,tG a 43,tG a 44,tG a 45,tG a 46,tG a 47,tG a 48,tG a 49,tG a 50,tG a 51,tG a 52,tG a 53,tG a 54,tG a 55,tG a 56,tG a 57,tG a 58,tG a 59,tG a 60,tG a 61,tG a 62,tG a 63,tG a 64,tG a 65,tG a 66,tG a 67,tG a 68,tG a 69,tG a 70,tG a 71,tG a 72,tG a 73,tG a 74]∧a.defers=[]∧((Holds W w.heap.size 69 #[.int .u64 (x0:Int),.int .u64 (x1:Int),.int .u64 (x2:Int),.int .u64 (x3:Int),.int .u64 (y0:Int),.int .u64 (y1:Int),.int .u64 (y2:Int),.int .u64 (y3:Int),.int .u64 (z0:Int),.int .u64 (z1:Int),.int .u64 (z2:Int),.int .u64 (z3:Int)])∧(Holds W (w.heap.size+1) 69 #[.int .u64 0,.int .u64 0,.int .u64 0,.int .u64 0,.int .u64 0,.int .u64 0,.int .u64 0,.int .u64 0,.int .u64 0,.int .u64 0,.int .u64 0,.int .u64 0])∧(Below w.heap.size w W)∧(CMet W))∧(NumOr W g3 (some (en zz)))∧(NumOr W g4 (some (en yy)))∧(w.heap.size+1<g3)∧(w.heap.size+1<g4)):=⟨_,lH rfl⟩
 refine Code.wp_mono (Q:=QQ1) ?_ ?_
 rotate_left 1
 ·have BX0:=lH (ST0.out.1)
  have RB0:=lH (ST0.out.2.1)
  have HB0:=lH (ST0.out.2.2.1)
  have HM0:=lH (ST0.out.2.2.2)
  have Hy:=lH (FV.out.2.2.1)
  have Hz:=lH (FV.out.2.2.2.1)
  have Ezz:=lH (FV.out.2.2.2.2.1)
  have Eyy:=lH (FV.out.2.2.2.2.2.1)
  have Hzz:=lH (FV.out.2.2.2.2.2.2.2.2.2.2.2.2.2.2.2.2.2.2.2.2.2.2.2.2.2.2.2.2.1)
  have Hyy:=lH (FV.out.2.2.2.2.2.2.2.2.2.2.2.2.2.2.2.2.2.2.2.2.2.2.2.2.2.2.2.2.2.1)
  clear ST0 FV
  have HF:Hid (∀ W,Below u0.heap.size u0 W→(Holds W w.heap.size 69 #[.int .u64 (x0:Int),.int .u64 (x1:Int),.int .u64 (x2:Int),.int .u64 (x3:Int),.int .u64 (y0:Int),.int .u64 (y1:Int),.int .u64 (y2:Int),.int .u64 (y3:Int),.int .u64 (z0:Int),.int .u64 (z1:Int),.int .u64 (z2:Int),.int .u64 (z3:Int)])∧(Holds W (w.heap.size+1) 69 #[.int .u64 0,.int .u64 0,.int .u64 0,.int .u64 0,.int .u64 0,.int .u64 0,.int .u64 0,.int .u64 0,.int .u64 0,.int .u64 0,.int .u64 0,.int .u64 0])∧(Below w.heap.size w W)∧(CMet W)):=lH fun W h=>⟨BX0.out.under h (Holds.lt BX0.out),RB0.out.under h (Holds.lt RB0.out),HB0.out.trans (h.mono HB0.out.size),HM0.out.under h⟩
  refine wp_region_noPanic ?_
  refine wp_region_held_drew (S:=fun W=>Below u0.heap.size u0 W) (by kernel_rfl) ((Below.refl _ u0).drew) (fun hHeld=>?_)
  obtain ⟨V,hV⟩:∃ W,W=u0.drew:=⟨_,rfl⟩
  rw [←hV]
  have HSV:Hid (Below u0.heap.size u0 V):=lH (by rw [hV];exact (Below.refl _ u0).drew)
  replace hHeld:(fun W=>Below u0.heap.size u0 W) V:=HSV.out
  clear hV
  refine tk 0 ⟨some 11,.fieldAddr 69 (.tmp 1) 2,0,_,_,none⟩ ?_ rfl ?_ hHeld ?_
  rotate_left 1
  ·(intro W hW;(try dsimp only at hW);go_simp;try with_reducible rfl)
  try simp only [aP]
  refine tk 1 ⟨some 12,.load 67 (.tmp 11),67,_,_,none⟩ ?_ rfl ?_ hHeld ?_
  rotate_left 1
  ·(intro W hW;have hBB:=BX0.out.under hW (Holds.lt BX0.out);have k8:=hBB.cell 8;have k9:=hBB.cell 9;have k10:=hBB.cell 10;have k11:=hBB.cell 11;(try dsimp only at hW);go_simp;try with_reducible rfl)
  try simp only [aP]
  refine tk 2 ⟨some 13,.fieldAddr 69 (.tmp 1) 2,0,_,_,none⟩ ?_ rfl ?_ hHeld ?_
  rotate_left 1
  ·(intro W hW;(try dsimp only at hW);go_simp;try with_reducible rfl)
  try simp only [aP]
  refine tk 3 ⟨some 14,.load 67 (.tmp 13),67,_,_,none⟩ ?_ rfl ?_ hHeld ?_
  rotate_left 1
  ·(intro W hW;have hBB:=BX0.out.under hW (Holds.lt BX0.out);have k8:=hBB.cell 8;have k9:=hBB.cell 9;have k10:=hBB.cell 10;have k11:=hBB.cell 11;(try dsimp only at hW);go_simp;try with_reducible rfl)
  try simp only [aP]
  refine tk 5 ⟨some 16,.fieldAddr 69 (.tmp 1) 1,0,_,_,none⟩ ?_ rfl ?_ hHeld ?_
  rotate_left 1
  ·(intro W hW;(try dsimp only at hW);go_simp;try with_reducible rfl)
  try simp only [aP]
  refine tk 6 ⟨some 17,.load 67 (.tmp 16),67,_,_,none⟩ ?_ rfl ?_ hHeld ?_
  rotate_left 1
  ·(intro W hW;have hBB:=BX0.out.under hW (Holds.lt BX0.out);have k4:=hBB.cell 4;have k5:=hBB.cell 5;have k6:=hBB.cell 6;have k7:=hBB.cell 7;(try dsimp only at hW);go_simp;try with_reducible rfl)
  try simp only [aP]
  refine tk 7 ⟨some 18,.fieldAddr 69 (.tmp 1) 1,0,_,_,none⟩ ?_ rfl ?_ hHeld ?_
  rotate_left 1
  ·(intro W hW;(try dsimp only at hW);go_simp;try with_reducible rfl)
  try simp only [aP]
  refine tk 8 ⟨some 19,.load 67 (.tmp 18),67,_,_,none⟩ ?_ rfl ?_ hHeld ?_
  rotate_left 1
  ·(intro W hW;have hBB:=BX0.out.under hW (Holds.lt BX0.out);have k4:=hBB.cell 4;have k5:=hBB.cell 5;have k6:=hBB.cell 6;have k7:=hBB.cell 7;(try dsimp only at hW);go_simp;try with_reducible rfl)
  try simp only [aP]
  refine wpAnyH_ready (rs:=[4,10,11]) (by kernel_rfl) (by simp) ?_
  refine AllReadyH.cons (o:=⟨some 15,.call ⟨ .value (.func 56),#[.tmp 12,.tmp 14],#[67,67]⟩,67,_,_,none⟩) rfl (fun K hK=>?_) ?_
  go_simp
  refine (mulE V (HM0.out.under HSV.out) j.z j.z Hz.out Hz.out (by rw [←Ezz.out];exact Hzz.out)).mono ?_
  rintro e V4 ⟨rfl,hbN⟩
  have HSV4:=lH (HSV.out.trans (hbN.mono HSV.out.size))
  clear hbN
  clear HSV
  go_simp
  refine hK.out _ _ (HSV4.out) (fun hHeld=>?_)
  clear hK K
  try simp only [aP]
  refine wpAnyH_ready (rs:=[9,10,11]) (by kernel_rfl) (by simp) ?_
  refine AllReadyH.cons (o:=⟨some 20,.call ⟨ .value (.func 56),#[.tmp 17,.tmp 19],#[67,67]⟩,67,_,_,none⟩) rfl (fun K hK=>?_) ?_
  go_simp
  refine (mulE V4 (HM0.out.under HSV4.out) j.y j.y Hy.out Hy.out (by rw [←Eyy.out];exact Hyy.out)).mono ?_
  rintro e V49 ⟨rfl,hbN⟩
  have HSV49:=lH (HSV4.out.trans (hbN.mono HSV4.out.size))
  clear hbN
  clear HSV4
  go_simp
  refine hK.out _ _ (HSV49.out) (fun hHeld=>?_)
  clear hK K
  try simp only [aP]
  refine wpAnyH_ready (rs:=[10,11]) (by kernel_rfl) (by simp) ?_
  refine AllReadyH.cons (o:=⟨some 3,.alloc 67,0,_,_,none⟩) rfl (fun K hK=>?_) ?_
  obtain ⟨V49a,hN⟩:∃ W,W=V49.alloc (.cells #[.int .u64 0,.int .u64 0,.int .u64 0,.int .u64 0] 67):=⟨_,rfl⟩
  go_simp
  rw [←hN]
  obtain ⟨g3,hg⟩:∃ g,g=V49.heap.size:=⟨_,rfl⟩
  rw [←hg]
  have A3V49a:Hid (NumOr V49a g3 none):=lH (by rw [hN,hg];exact NumOr.fresh _)
  have HSV49a:=lH (by rw [hN];exact HSV49.out.alloc HSV49.out.size _:Below u0.heap.size u0 V49a)
  have HG3:Hid (u0.heap.size≤g3):=lH (by rw [hg];exact HSV49.out.size)
  clear hN hg
  clear HSV49
  refine hK.out _ _ (HSV49a.out) (fun hHeld=>?_)
  clear hK K
  try simp only [aP]
  refine rdy 11 ⟨some 4,.alloc 67,0,_,_,none⟩ rfl (fun K hK=>?_)
  obtain ⟨V49ab,hN⟩:∃ W,W=V49a.alloc (.cells #[.int .u64 0,.int .u64 0,.int .u64 0,.int .u64 0] 67):=⟨_,rfl⟩
  go_simp
  rw [←hN]
  obtain ⟨g4,hg⟩:∃ g,g=V49a.heap.size:=⟨_,rfl⟩
  rw [←hg]
  have A4V49ab:Hid (NumOr V49ab g4 none):=lH (by rw [hN,hg];exact NumOr.fresh _)
  have HSV49ab:=lH (by rw [hN];exact HSV49a.out.alloc HSV49a.out.size _:Below u0.heap.size u0 V49ab)
  have HG4:Hid (u0.heap.size≤g4):=lH (by rw [hg];exact HSV49a.out.size)
  have HNE34:Hid (g3≠g4):=lH (by rw [hg];exact Nat.ne_of_lt A3V49a.out.lt)
  have A3V49ab:Hid (NumOr V49ab g3 none):=lH (by rw [hN];exact NumOr.alloc A3V49a.out _)
  clear hN hg
  have HU0:=lH (show w.heap.size+1<g3 from (by have h1:=Holds.lt RB0.out;have h2:=HG3.out;omega))
  have HU1:=lH (show w.heap.size+1<g4 from (by have h1:=Holds.lt RB0.out;have h2:=HG4.out;omega))
  clear HSV49a A3V49a
  refine hK.out _ _ (HSV49ab.out) (fun hHeld=>?_)
  clear hK K
  try simp only [aP]
  refine rdy 12 ⟨none,.store 67 (.tmp 3) (.tmp 15),0,_,_,none⟩ rfl (fun K hK=>?_)
  obtain ⟨zv0,zv1,zv2,zv3,⟨z0,o0⟩,⟨z1,o1⟩,⟨z2,o2⟩,⟨z3,o3⟩⟩:=NumOr.facts A3V49ab.out
  obtain ⟨V49abc,hN⟩:∃ W,W=((((V49ab.setCell ⟨g3,0,none⟩ (.int .u64 (zz0:Int))).setCell ⟨g3,1,none⟩ (.int .u64 (zz1:Int))).setCell ⟨g3,2,none⟩ (.int .u64 (zz2:Int))).setCell ⟨g3,3,none⟩ (.int .u64 (zz3:Int))):=⟨_,rfl⟩
  go_simp
  rw [←hN]
  have A3V49abc:Hid (NumOr V49abc g3 (some (en zz))):=lH (by rw [hN];exact NumOr.set A3V49ab.out Hzz.out)
  have HSV49abc:=lH (by rw [hN];exact below4 HSV49ab.out HG3.out _ _ _ _:Below u0.heap.size u0 V49abc)
  have A4V49abc:Hid (NumOr V49abc g4 none):=lH (by rw [hN];exact NumOr.aside4 A4V49ab.out HNE34.out.symm _ _ _ _)
  clear hN z0 o0 z1 o1 z2 o2 z3 o3 zv0 zv1 zv2 zv3
  clear HSV49ab A3V49ab A4V49ab
  refine hK.out _ _ (HSV49abc.out) (fun hHeld=>?_)
  clear hK K
  try simp only [aP]
  refine rdy 13 ⟨none,.store 67 (.tmp 4) (.tmp 20),0,_,_,none⟩ rfl (fun K hK=>?_)
  obtain ⟨zv0,zv1,zv2,zv3,⟨z0,o0⟩,⟨z1,o1⟩,⟨z2,o2⟩,⟨z3,o3⟩⟩:=NumOr.facts A4V49abc.out
  obtain ⟨V49abcd,hN⟩:∃ W,W=((((V49abc.setCell ⟨g4,0,none⟩ (.int .u64 (yy0:Int))).setCell ⟨g4,1,none⟩ (.int .u64 (yy1:Int))).setCell ⟨g4,2,none⟩ (.int .u64 (yy2:Int))).setCell ⟨g4,3,none⟩ (.int .u64 (yy3:Int))):=⟨_,rfl⟩
  go_simp
  rw [←hN]
  have A4V49abcd:Hid (NumOr V49abcd g4 (some (en yy))):=lH (by rw [hN];exact NumOr.set A4V49abc.out Hyy.out)
  have HSV49abcd:=lH (by rw [hN];exact below4 HSV49abc.out HG4.out _ _ _ _:Below u0.heap.size u0 V49abcd)
  have A3V49abcd:Hid (NumOr V49abcd g3 (some (en zz))):=lH (by rw [hN];exact NumOr.aside4 A3V49abc.out HNE34.out _ _ _ _)
  clear hN z0 o0 z1 o1 z2 o2 z3 o3 zv0 zv1 zv2 zv3
  clear HSV49abc A3V49abc A4V49abc
  refine hK.out _ _ (HSV49abcd.out) (fun hHeld=>?_)
  clear hK K
  try simp only [aP]
  refine wpAnyH_done (by kernel_rfl) ?_ _
  refine NoPanic.normal ?_
  rw [HQ1.out]
  exact ⟨rfl,g3,g4,rfl,rfl,HF.out _ HSV49abcd.out,A3V49abcd.out,A4V49abcd.out,HU0.out,HU1.out⟩
  refine AllReadyH.cons (o:=⟨some 4,.alloc 67,0,_,_,none⟩) rfl (fun K hK=>?_) AllReadyH.nil
  obtain ⟨V49b,hN⟩:∃ W,W=V49.alloc (.cells #[.int .u64 0,.int .u64 0,.int .u64 0,.int .u64 0] 67):=⟨_,rfl⟩
  go_simp
  rw [←hN]
  obtain ⟨g4,hg⟩:∃ g,g=V49.heap.size:=⟨_,rfl⟩
  rw [←hg]
  have A4V49b:Hid (NumOr V49b g4 none):=lH (by rw [hN,hg];exact NumOr.fresh _)
  have HSV49b:=lH (by rw [hN];exact HSV49.out.alloc HSV49.out.size _:Below u0.heap.size u0 V49b)
  have HG4:Hid (u0.heap.size≤g4):=lH (by rw [hg];exact HSV49.out.size)
  clear hN hg
  clear HSV49
  refine hK.out _ _ (HSV49b.out) (fun hHeld=>?_)
  clear hK K
  try simp only [aP]
  refine rdy 10 ⟨some 3,.alloc 67,0,_,_,none⟩ rfl (fun K hK=>?_)
  obtain ⟨V49ba,hN⟩:∃ W,W=V49b.alloc (.cells #[.int .u64 0,.int .u64 0,.int .u64 0,.int .u64 0] 67):=⟨_,rfl⟩
  go_simp
  rw [←hN]
  obtain ⟨g3,hg⟩:∃ g,g=V49b.heap.size:=⟨_,rfl⟩
  rw [←hg]
  have A3V49ba:Hid (NumOr V49ba g3 none):=lH (by rw [hN,hg];exact NumOr.fresh _)
  have HSV49ba:=lH (by rw [hN];exact HSV49b.out.alloc HSV49b.out.size _:Below u0.heap.size u0 V49ba)
  have HG3:Hid (u0.heap.size≤g3):=lH (by rw [hg];exact HSV49b.out.size)
  have HNE43:Hid (g4≠g3):=lH (by rw [hg];exact Nat.ne_of_lt A4V49b.out.lt)
  have A4V49ba:Hid (NumOr V49ba g4 none):=lH (by rw [hN];exact NumOr.alloc A4V49b.out _)
  clear hN hg
  have HU0:=lH (show w.heap.size+1<g3 from (by have h1:=Holds.lt RB0.out;have h2:=HG3.out;omega))
  have HU1:=lH (show w.heap.size+1<g4 from (by have h1:=Holds.lt RB0.out;have h2:=HG4.out;omega))
  clear HSV49b A4V49b
  refine hK.out _ _ (HSV49ba.out) (fun hHeld=>?_)
  clear hK K
  try simp only [aP]
  refine rdy 12 ⟨none,.store 67 (.tmp 3) (.tmp 15),0,_,_,none⟩ rfl (fun K hK=>?_)
  obtain ⟨zv0,zv1,zv2,zv3,⟨z0,o0⟩,⟨z1,o1⟩,⟨z2,o2⟩,⟨z3,o3⟩⟩:=NumOr.facts A3V49ba.out
  obtain ⟨V49bac,hN⟩:∃ W,W=((((V49ba.setCell ⟨g3,0,none⟩ (.int .u64 (zz0:Int))).setCell ⟨g3,1,none⟩ (.int .u64 (zz1:Int))).setCell ⟨g3,2,none⟩ (.int .u64 (zz2:Int))).setCell ⟨g3,3,none⟩ (.int .u64 (zz3:Int))):=⟨_,rfl⟩
  go_simp
  rw [←hN]
  have A3V49bac:Hid (NumOr V49bac g3 (some (en zz))):=lH (by rw [hN];exact NumOr.set A3V49ba.out Hzz.out)
  have HSV49bac:=lH (by rw [hN];exact below4 HSV49ba.out HG3.out _ _ _ _:Below u0.heap.size u0 V49bac)
  have A4V49bac:Hid (NumOr V49bac g4 none):=lH (by rw [hN];exact NumOr.aside4 A4V49ba.out HNE43.out _ _ _ _)
  clear hN z0 o0 z1 o1 z2 o2 z3 o3 zv0 zv1 zv2 zv3
  clear HSV49ba A4V49ba A3V49ba
  refine hK.out _ _ (HSV49bac.out) (fun hHeld=>?_)
  clear hK K
  try simp only [aP]
  refine rdy 13 ⟨none,.store 67 (.tmp 4) (.tmp 20),0,_,_,none⟩ rfl (fun K hK=>?_)
  obtain ⟨zv0,zv1,zv2,zv3,⟨z0,o0⟩,⟨z1,o1⟩,⟨z2,o2⟩,⟨z3,o3⟩⟩:=NumOr.facts A4V49bac.out
  obtain ⟨V49bacd,hN⟩:∃ W,W=((((V49bac.setCell ⟨g4,0,none⟩ (.int .u64 (yy0:Int))).setCell ⟨g4,1,none⟩ (.int .u64 (yy1:Int))).setCell ⟨g4,2,none⟩ (.int .u64 (yy2:Int))).setCell ⟨g4,3,none⟩ (.int .u64 (yy3:Int))):=⟨_,rfl⟩
  go_simp
  rw [←hN]
  have A4V49bacd:Hid (NumOr V49bacd g4 (some (en yy))):=lH (by rw [hN];exact NumOr.set A4V49bac.out Hyy.out)
  have HSV49bacd:=lH (by rw [hN];exact below4 HSV49bac.out HG4.out _ _ _ _:Below u0.heap.size u0 V49bacd)
  have A3V49bacd:Hid (NumOr V49bacd g3 (some (en zz))):=lH (by rw [hN];exact NumOr.aside4 A3V49bac.out HNE43.out.symm _ _ _ _)
  clear hN z0 o0 z1 o1 z2 o2 z3 o3 zv0 zv1 zv2 zv3
  clear HSV49bac A4V49bac A3V49bac
  refine hK.out _ _ (HSV49bacd.out) (fun hHeld=>?_)
  clear hK K
  try simp only [aP]
  refine wpAnyH_done (by kernel_rfl) ?_ _
  refine NoPanic.normal ?_
  rw [HQ1.out]
  exact ⟨rfl,g3,g4,rfl,rfl,HF.out _ HSV49bacd.out,A3V49bacd.out,A4V49bacd.out,HU0.out,HU1.out⟩
  refine AllReadyH.cons (o:=⟨some 3,.alloc 67,0,_,_,none⟩) rfl (fun K hK=>?_) ?_
  obtain ⟨V4a,hN⟩:∃ W,W=V4.alloc (.cells #[.int .u64 0,.int .u64 0,.int .u64 0,.int .u64 0] 67):=⟨_,rfl⟩
  go_simp
  rw [←hN]
  obtain ⟨g3,hg⟩:∃ g,g=V4.heap.size:=⟨_,rfl⟩
  rw [←hg]
  have A3V4a:Hid (NumOr V4a g3 none):=lH (by rw [hN,hg];exact NumOr.fresh _)
  have HSV4a:=lH (by rw [hN];exact HSV4.out.alloc HSV4.out.size _:Below u0.heap.size u0 V4a)
  have HG3:Hid (u0.heap.size≤g3):=lH (by rw [hg];exact HSV4.out.size)
  clear hN hg
  clear HSV4
  refine hK.out _ _ (HSV4a.out) (fun hHeld=>?_)
  clear hK K
  try simp only [aP]
  refine wpAnyH_ready (rs:=[9,11]) (by kernel_rfl) (by simp) ?_
  refine AllReadyH.cons (o:=⟨some 20,.call ⟨ .value (.func 56),#[.tmp 17,.tmp 19],#[67,67]⟩,67,_,_,none⟩) rfl (fun K hK=>?_) ?_
  go_simp
  refine (mulE V4a (HM0.out.under HSV4a.out) j.y j.y Hy.out Hy.out (by rw [←Eyy.out];exact Hyy.out)).mono ?_
  rintro e V4a9 ⟨rfl,hbN⟩
  have HSV4a9:=lH (HSV4a.out.trans (hbN.mono HSV4a.out.size))
  have A3V4a9:Hid (NumOr V4a9 g3 none):=lH (NumOr.under A3V4a.out hbN)
  clear hbN
  clear HSV4a A3V4a
  go_simp
  refine hK.out _ _ (HSV4a9.out) (fun hHeld=>?_)
  clear hK K
  try simp only [aP]
  refine rdy 11 ⟨some 4,.alloc 67,0,_,_,none⟩ rfl (fun K hK=>?_)
  obtain ⟨V4a9b,hN⟩:∃ W,W=V4a9.alloc (.cells #[.int .u64 0,.int .u64 0,.int .u64 0,.int .u64 0] 67):=⟨_,rfl⟩
  go_simp
  rw [←hN]
  obtain ⟨g4,hg⟩:∃ g,g=V4a9.heap.size:=⟨_,rfl⟩
  rw [←hg]
  have A4V4a9b:Hid (NumOr V4a9b g4 none):=lH (by rw [hN,hg];exact NumOr.fresh _)
  have HSV4a9b:=lH (by rw [hN];exact HSV4a9.out.alloc HSV4a9.out.size _:Below u0.heap.size u0 V4a9b)
  have HG4:Hid (u0.heap.size≤g4):=lH (by rw [hg];exact HSV4a9.out.size)
  have HNE34:Hid (g3≠g4):=lH (by rw [hg];exact Nat.ne_of_lt A3V4a9.out.lt)
  have A3V4a9b:Hid (NumOr V4a9b g3 none):=lH (by rw [hN];exact NumOr.alloc A3V4a9.out _)
  clear hN hg
  have HU0:=lH (show w.heap.size+1<g3 from (by have h1:=Holds.lt RB0.out;have h2:=HG3.out;omega))
  have HU1:=lH (show w.heap.size+1<g4 from (by have h1:=Holds.lt RB0.out;have h2:=HG4.out;omega))
  clear HSV4a9 A3V4a9
  refine hK.out _ _ (HSV4a9b.out) (fun hHeld=>?_)
  clear hK K
  try simp only [aP]
  refine rdy 12 ⟨none,.store 67 (.tmp 3) (.tmp 15),0,_,_,none⟩ rfl (fun K hK=>?_)
  obtain ⟨zv0,zv1,zv2,zv3,⟨z0,o0⟩,⟨z1,o1⟩,⟨z2,o2⟩,⟨z3,o3⟩⟩:=NumOr.facts A3V4a9b.out
  obtain ⟨V4a9bc,hN⟩:∃ W,W=((((V4a9b.setCell ⟨g3,0,none⟩ (.int .u64 (zz0:Int))).setCell ⟨g3,1,none⟩ (.int .u64 (zz1:Int))).setCell ⟨g3,2,none⟩ (.int .u64 (zz2:Int))).setCell ⟨g3,3,none⟩ (.int .u64 (zz3:Int))):=⟨_,rfl⟩
  go_simp
  rw [←hN]
  have A3V4a9bc:Hid (NumOr V4a9bc g3 (some (en zz))):=lH (by rw [hN];exact NumOr.set A3V4a9b.out Hzz.out)
  have HSV4a9bc:=lH (by rw [hN];exact below4 HSV4a9b.out HG3.out _ _ _ _:Below u0.heap.size u0 V4a9bc)
  have A4V4a9bc:Hid (NumOr V4a9bc g4 none):=lH (by rw [hN];exact NumOr.aside4 A4V4a9b.out HNE34.out.symm _ _ _ _)
  clear hN z0 o0 z1 o1 z2 o2 z3 o3 zv0 zv1 zv2 zv3
  clear HSV4a9b A3V4a9b A4V4a9b
  refine hK.out _ _ (HSV4a9bc.out) (fun hHeld=>?_)
  clear hK K
  try simp only [aP]
  refine rdy 13 ⟨none,.store 67 (.tmp 4) (.tmp 20),0,_,_,none⟩ rfl (fun K hK=>?_)
  obtain ⟨zv0,zv1,zv2,zv3,⟨z0,o0⟩,⟨z1,o1⟩,⟨z2,o2⟩,⟨z3,o3⟩⟩:=NumOr.facts A4V4a9bc.out
  obtain ⟨V4a9bcd,hN⟩:∃ W,W=((((V4a9bc.setCell ⟨g4,0,none⟩ (.int .u64 (yy0:Int))).setCell ⟨g4,1,none⟩ (.int .u64 (yy1:Int))).setCell ⟨g4,2,none⟩ (.int .u64 (yy2:Int))).setCell ⟨g4,3,none⟩ (.int .u64 (yy3:Int))):=⟨_,rfl⟩
  go_simp
  rw [←hN]
  have A4V4a9bcd:Hid (NumOr V4a9bcd g4 (some (en yy))):=lH (by rw [hN];exact NumOr.set A4V4a9bc.out Hyy.out)
  have HSV4a9bcd:=lH (by rw [hN];exact below4 HSV4a9bc.out HG4.out _ _ _ _:Below u0.heap.size u0 V4a9bcd)
  have A3V4a9bcd:Hid (NumOr V4a9bcd g3 (some (en zz))):=lH (by rw [hN];exact NumOr.aside4 A3V4a9bc.out HNE34.out _ _ _ _)
  clear hN z0 o0 z1 o1 z2 o2 z3 o3 zv0 zv1 zv2 zv3
  clear HSV4a9bc A3V4a9bc A4V4a9bc
  refine hK.out _ _ (HSV4a9bcd.out) (fun hHeld=>?_)
  clear hK K
  try simp only [aP]
  refine wpAnyH_done (by kernel_rfl) ?_ _
  refine NoPanic.normal ?_
  rw [HQ1.out]
  exact ⟨rfl,g3,g4,rfl,rfl,HF.out _ HSV4a9bcd.out,A3V4a9bcd.out,A4V4a9bcd.out,HU0.out,HU1.out⟩
  refine AllReadyH.cons (o:=⟨some 4,.alloc 67,0,_,_,none⟩) rfl (fun K hK=>?_) AllReadyH.nil
  obtain ⟨V4ab,hN⟩:∃ W,W=V4a.alloc (.cells #[.int .u64 0,.int .u64 0,.int .u64 0,.int .u64 0] 67):=⟨_,rfl⟩
  go_simp
  rw [←hN]
  obtain ⟨g4,hg⟩:∃ g,g=V4a.heap.size:=⟨_,rfl⟩
  rw [←hg]
  have A4V4ab:Hid (NumOr V4ab g4 none):=lH (by rw [hN,hg];exact NumOr.fresh _)
  have HSV4ab:=lH (by rw [hN];exact HSV4a.out.alloc HSV4a.out.size _:Below u0.heap.size u0 V4ab)
  have HG4:Hid (u0.heap.size≤g4):=lH (by rw [hg];exact HSV4a.out.size)
  have HNE34:Hid (g3≠g4):=lH (by rw [hg];exact Nat.ne_of_lt A3V4a.out.lt)
  have A3V4ab:Hid (NumOr V4ab g3 none):=lH (by rw [hN];exact NumOr.alloc A3V4a.out _)
  clear hN hg
  have HU0:=lH (show w.heap.size+1<g3 from (by have h1:=Holds.lt RB0.out;have h2:=HG3.out;omega))
  have HU1:=lH (show w.heap.size+1<g4 from (by have h1:=Holds.lt RB0.out;have h2:=HG4.out;omega))
  clear HSV4a A3V4a
  refine hK.out _ _ (HSV4ab.out) (fun hHeld=>?_)
  clear hK K
  try simp only [aP]
  refine rdy 9 ⟨some 20,.call ⟨ .value (.func 56),#[.tmp 17,.tmp 19],#[67,67]⟩,67,_,_,none⟩ rfl (fun K hK=>?_)
  go_simp
  refine (mulE V4ab (HM0.out.under HSV4ab.out) j.y j.y Hy.out Hy.out (by rw [←Eyy.out];exact Hyy.out)).mono ?_
  rintro e V4ab9 ⟨rfl,hbN⟩
  have HSV4ab9:=lH (HSV4ab.out.trans (hbN.mono HSV4ab.out.size))
  have A3V4ab9:Hid (NumOr V4ab9 g3 none):=lH (NumOr.under A3V4ab.out hbN)
  have A4V4ab9:Hid (NumOr V4ab9 g4 none):=lH (NumOr.under A4V4ab.out hbN)
  clear hbN
  clear HSV4ab A3V4ab A4V4ab
  go_simp
  refine hK.out _ _ (HSV4ab9.out) (fun hHeld=>?_)
  clear hK K
  try simp only [aP]
  refine rdy 12 ⟨none,.store 67 (.tmp 3) (.tmp 15),0,_,_,none⟩ rfl (fun K hK=>?_)
  obtain ⟨zv0,zv1,zv2,zv3,⟨z0,o0⟩,⟨z1,o1⟩,⟨z2,o2⟩,⟨z3,o3⟩⟩:=NumOr.facts A3V4ab9.out
  obtain ⟨V4ab9c,hN⟩:∃ W,W=((((V4ab9.setCell ⟨g3,0,none⟩ (.int .u64 (zz0:Int))).setCell ⟨g3,1,none⟩ (.int .u64 (zz1:Int))).setCell ⟨g3,2,none⟩ (.int .u64 (zz2:Int))).setCell ⟨g3,3,none⟩ (.int .u64 (zz3:Int))):=⟨_,rfl⟩
  go_simp
  rw [←hN]
  have A3V4ab9c:Hid (NumOr V4ab9c g3 (some (en zz))):=lH (by rw [hN];exact NumOr.set A3V4ab9.out Hzz.out)
  have HSV4ab9c:=lH (by rw [hN];exact below4 HSV4ab9.out HG3.out _ _ _ _:Below u0.heap.size u0 V4ab9c)
  have A4V4ab9c:Hid (NumOr V4ab9c g4 none):=lH (by rw [hN];exact NumOr.aside4 A4V4ab9.out HNE34.out.symm _ _ _ _)
  clear hN z0 o0 z1 o1 z2 o2 z3 o3 zv0 zv1 zv2 zv3
  clear HSV4ab9 A3V4ab9 A4V4ab9
  refine hK.out _ _ (HSV4ab9c.out) (fun hHeld=>?_)
  clear hK K
  try simp only [aP]
  refine rdy 13 ⟨none,.store 67 (.tmp 4) (.tmp 20),0,_,_,none⟩ rfl (fun K hK=>?_)
  obtain ⟨zv0,zv1,zv2,zv3,⟨z0,o0⟩,⟨z1,o1⟩,⟨z2,o2⟩,⟨z3,o3⟩⟩:=NumOr.facts A4V4ab9c.out
  obtain ⟨V4ab9cd,hN⟩:∃ W,W=((((V4ab9c.setCell ⟨g4,0,none⟩ (.int .u64 (yy0:Int))).setCell ⟨g4,1,none⟩ (.int .u64 (yy1:Int))).setCell ⟨g4,2,none⟩ (.int .u64 (yy2:Int))).setCell ⟨g4,3,none⟩ (.int .u64 (yy3:Int))):=⟨_,rfl⟩
  go_simp
  rw [←hN]
  have A4V4ab9cd:Hid (NumOr V4ab9cd g4 (some (en yy))):=lH (by rw [hN];exact NumOr.set A4V4ab9c.out Hyy.out)
  have HSV4ab9cd:=lH (by rw [hN];exact below4 HSV4ab9c.out HG4.out _ _ _ _:Below u0.heap.size u0 V4ab9cd)
  have A3V4ab9cd:Hid (NumOr V4ab9cd g3 (some (en zz))):=lH (by rw [hN];exact NumOr.aside4 A3V4ab9c.out HNE34.out _ _ _ _)
  clear hN z0 o0 z1 o1 z2 o2 z3 o3 zv0 zv1 zv2 zv3
  clear HSV4ab9c A3V4ab9c A4V4ab9c
  refine hK.out _ _ (HSV4ab9cd.out) (fun hHeld=>?_)
  clear hK K
  try simp only [aP]
  refine wpAnyH_done (by kernel_rfl) ?_ _
  refine NoPanic.normal ?_
  rw [HQ1.out]
  exact ⟨rfl,g3,g4,rfl,rfl,HF.out _ HSV4ab9cd.out,A3V4ab9cd.out,A4V4ab9cd.out,HU0.out,HU1.out⟩
  refine AllReadyH.cons (o:=⟨some 4,.alloc 67,0,_,_,none⟩) rfl (fun K hK=>?_) AllReadyH.nil
  obtain ⟨V4b,hN⟩:∃ W,W=V4.alloc (.cells #[.int .u64 0,.int .u64 0,.int .u64 0,.int .u64 0] 67):=⟨_,rfl⟩
  go_simp
  rw [←hN]
  obtain ⟨g4,hg⟩:∃ g,g=V4.heap.size:=⟨_,rfl⟩
  rw [←hg]
  have A4V4b:Hid (NumOr V4b g4 none):=lH (by rw [hN,hg];exact NumOr.fresh _)
  have HSV4b:=lH (by rw [hN];exact HSV4.out.alloc HSV4.out.size _:Below u0.heap.size u0 V4b)
  have HG4:Hid (u0.heap.size≤g4):=lH (by rw [hg];exact HSV4.out.size)
  clear hN hg
  clear HSV4
  refine hK.out _ _ (HSV4b.out) (fun hHeld=>?_)
  clear hK K
  try simp only [aP]
  refine wpAnyH_ready (rs:=[9,10]) (by kernel_rfl) (by simp) ?_
  refine AllReadyH.cons (o:=⟨some 20,.call ⟨ .value (.func 56),#[.tmp 17,.tmp 19],#[67,67]⟩,67,_,_,none⟩) rfl (fun K hK=>?_) ?_
  go_simp
  refine (mulE V4b (HM0.out.under HSV4b.out) j.y j.y Hy.out Hy.out (by rw [←Eyy.out];exact Hyy.out)).mono ?_
  rintro e V4b9 ⟨rfl,hbN⟩
  have HSV4b9:=lH (HSV4b.out.trans (hbN.mono HSV4b.out.size))
  have A4V4b9:Hid (NumOr V4b9 g4 none):=lH (NumOr.under A4V4b.out hbN)
  clear hbN
  clear HSV4b A4V4b
  go_simp
  refine hK.out _ _ (HSV4b9.out) (fun hHeld=>?_)
  clear hK K
  try simp only [aP]
  refine rdy 10 ⟨some 3,.alloc 67,0,_,_,none⟩ rfl (fun K hK=>?_)
  obtain ⟨V4b9a,hN⟩:∃ W,W=V4b9.alloc (.cells #[.int .u64 0,.int .u64 0,.int .u64 0,.int .u64 0] 67):=⟨_,rfl⟩
  go_simp
  rw [←hN]
  obtain ⟨g3,hg⟩:∃ g,g=V4b9.heap.size:=⟨_,rfl⟩
  rw [←hg]
  have A3V4b9a:Hid (NumOr V4b9a g3 none):=lH (by rw [hN,hg];exact NumOr.fresh _)
  have HSV4b9a:=lH (by rw [hN];exact HSV4b9.out.alloc HSV4b9.out.size _:Below u0.heap.size u0 V4b9a)
  have HG3:Hid (u0.heap.size≤g3):=lH (by rw [hg];exact HSV4b9.out.size)
  have HNE43:Hid (g4≠g3):=lH (by rw [hg];exact Nat.ne_of_lt A4V4b9.out.lt)
  have A4V4b9a:Hid (NumOr V4b9a g4 none):=lH (by rw [hN];exact NumOr.alloc A4V4b9.out _)
  clear hN hg
  have HU0:=lH (show w.heap.size+1<g3 from (by have h1:=Holds.lt RB0.out;have h2:=HG3.out;omega))
  have HU1:=lH (show w.heap.size+1<g4 from (by have h1:=Holds.lt RB0.out;have h2:=HG4.out;omega))
  clear HSV4b9 A4V4b9
  refine hK.out _ _ (HSV4b9a.out) (fun hHeld=>?_)
  clear hK K
  try simp only [aP]
  refine rdy 12 ⟨none,.store 67 (.tmp 3) (.tmp 15),0,_,_,none⟩ rfl (fun K hK=>?_)
  obtain ⟨zv0,zv1,zv2,zv3,⟨z0,o0⟩,⟨z1,o1⟩,⟨z2,o2⟩,⟨z3,o3⟩⟩:=NumOr.facts A3V4b9a.out
  obtain ⟨V4b9ac,hN⟩:∃ W,W=((((V4b9a.setCell ⟨g3,0,none⟩ (.int .u64 (zz0:Int))).setCell ⟨g3,1,none⟩ (.int .u64 (zz1:Int))).setCell ⟨g3,2,none⟩ (.int .u64 (zz2:Int))).setCell ⟨g3,3,none⟩ (.int .u64 (zz3:Int))):=⟨_,rfl⟩
  go_simp
  rw [←hN]
  have A3V4b9ac:Hid (NumOr V4b9ac g3 (some (en zz))):=lH (by rw [hN];exact NumOr.set A3V4b9a.out Hzz.out)
  have HSV4b9ac:=lH (by rw [hN];exact below4 HSV4b9a.out HG3.out _ _ _ _:Below u0.heap.size u0 V4b9ac)
  have A4V4b9ac:Hid (NumOr V4b9ac g4 none):=lH (by rw [hN];exact NumOr.aside4 A4V4b9a.out HNE43.out _ _ _ _)
  clear hN z0 o0 z1 o1 z2 o2 z3 o3 zv0 zv1 zv2 zv3
  clear HSV4b9a A4V4b9a A3V4b9a
  refine hK.out _ _ (HSV4b9ac.out) (fun hHeld=>?_)
  clear hK K
  try simp only [aP]
  refine rdy 13 ⟨none,.store 67 (.tmp 4) (.tmp 20),0,_,_,none⟩ rfl (fun K hK=>?_)
  obtain ⟨zv0,zv1,zv2,zv3,⟨z0,o0⟩,⟨z1,o1⟩,⟨z2,o2⟩,⟨z3,o3⟩⟩:=NumOr.facts A4V4b9ac.out
  obtain ⟨V4b9acd,hN⟩:∃ W,W=((((V4b9ac.setCell ⟨g4,0,none⟩ (.int .u64 (yy0:Int))).setCell ⟨g4,1,none⟩ (.int .u64 (yy1:Int))).setCell ⟨g4,2,none⟩ (.int .u64 (yy2:Int))).setCell ⟨g4,3,none⟩ (.int .u64 (yy3:Int))):=⟨_,rfl⟩
  go_simp
  rw [←hN]
  have A4V4b9acd:Hid (NumOr V4b9acd g4 (some (en yy))):=lH (by rw [hN];exact NumOr.set A4V4b9ac.out Hyy.out)
  have HSV4b9acd:=lH (by rw [hN];exact below4 HSV4b9ac.out HG4.out _ _ _ _:Below u0.heap.size u0 V4b9acd)
  have A3V4b9acd:Hid (NumOr V4b9acd g3 (some (en zz))):=lH (by rw [hN];exact NumOr.aside4 A3V4b9ac.out HNE43.out.symm _ _ _ _)
  clear hN z0 o0 z1 o1 z2 o2 z3 o3 zv0 zv1 zv2 zv3
  clear HSV4b9ac A4V4b9ac A3V4b9ac
  refine hK.out _ _ (HSV4b9acd.out) (fun hHeld=>?_)
  clear hK K
  try simp only [aP]
  refine wpAnyH_done (by kernel_rfl) ?_ _
  refine NoPanic.normal ?_
  rw [HQ1.out]
  exact ⟨rfl,g3,g4,rfl,rfl,HF.out _ HSV4b9acd.out,A3V4b9acd.out,A4V4b9acd.out,HU0.out,HU1.out⟩
  refine AllReadyH.cons (o:=⟨some 3,.alloc 67,0,_,_,none⟩) rfl (fun K hK=>?_) AllReadyH.nil
  obtain ⟨V4ba,hN⟩:∃ W,W=V4b.alloc (.cells #[.int .u64 0,.int .u64 0,.int .u64 0,.int .u64 0] 67):=⟨_,rfl⟩
  go_simp
  rw [←hN]
  obtain ⟨g3,hg⟩:∃ g,g=V4b.heap.size:=⟨_,rfl⟩
  rw [←hg]
  have A3V4ba:Hid (NumOr V4ba g3 none):=lH (by rw [hN,hg];exact NumOr.fresh _)
  have HSV4ba:=lH (by rw [hN];exact HSV4b.out.alloc HSV4b.out.size _:Below u0.heap.size u0 V4ba)
  have HG3:Hid (u0.heap.size≤g3):=lH (by rw [hg];exact HSV4b.out.size)
  have HNE43:Hid (g4≠g3):=lH (by rw [hg];exact Nat.ne_of_lt A4V4b.out.lt)
  have A4V4ba:Hid (NumOr V4ba g4 none):=lH (by rw [hN];exact NumOr.alloc A4V4b.out _)
  clear hN hg
  have HU0:=lH (show w.heap.size+1<g3 from (by have h1:=Holds.lt RB0.out;have h2:=HG3.out;omega))
  have HU1:=lH (show w.heap.size+1<g4 from (by have h1:=Holds.lt RB0.out;have h2:=HG4.out;omega))
  clear HSV4b A4V4b
  refine hK.out _ _ (HSV4ba.out) (fun hHeld=>?_)
  clear hK K
  try simp only [aP]
  refine rdy 9 ⟨some 20,.call ⟨ .value (.func 56),#[.tmp 17,.tmp 19],#[67,67]⟩,67,_,_,none⟩ rfl (fun K hK=>?_)
  go_simp
  refine (mulE V4ba (HM0.out.under HSV4ba.out) j.y j.y Hy.out Hy.out (by rw [←Eyy.out];exact Hyy.out)).mono ?_
  rintro e V4ba9 ⟨rfl,hbN⟩
  have HSV4ba9:=lH (HSV4ba.out.trans (hbN.mono HSV4ba.out.size))
  have A4V4ba9:Hid (NumOr V4ba9 g4 none):=lH (NumOr.under A4V4ba.out hbN)
  have A3V4ba9:Hid (NumOr V4ba9 g3 none):=lH (NumOr.under A3V4ba.out hbN)
  clear hbN
  clear HSV4ba A4V4ba A3V4ba
  go_simp
  refine hK.out _ _ (HSV4ba9.out) (fun hHeld=>?_)
  clear hK K
  try simp only [aP]
  refine rdy 12 ⟨none,.store 67 (.tmp 3) (.tmp 15),0,_,_,none⟩ rfl (fun K hK=>?_)
  obtain ⟨zv0,zv1,zv2,zv3,⟨z0,o0⟩,⟨z1,o1⟩,⟨z2,o2⟩,⟨z3,o3⟩⟩:=NumOr.facts A3V4ba9.out
  obtain ⟨V4ba9c,hN⟩:∃ W,W=((((V4ba9.setCell ⟨g3,0,none⟩ (.int .u64 (zz0:Int))).setCell ⟨g3,1,none⟩ (.int .u64 (zz1:Int))).setCell ⟨g3,2,none⟩ (.int .u64 (zz2:Int))).setCell ⟨g3,3,none⟩ (.int .u64 (zz3:Int))):=⟨_,rfl⟩
  go_simp
  rw [←hN]
  have A3V4ba9c:Hid (NumOr V4ba9c g3 (some (en zz))):=lH (by rw [hN];exact NumOr.set A3V4ba9.out Hzz.out)
  have HSV4ba9c:=lH (by rw [hN];exact below4 HSV4ba9.out HG3.out _ _ _ _:Below u0.heap.size u0 V4ba9c)
  have A4V4ba9c:Hid (NumOr V4ba9c g4 none):=lH (by rw [hN];exact NumOr.aside4 A4V4ba9.out HNE43.out _ _ _ _)
  clear hN z0 o0 z1 o1 z2 o2 z3 o3 zv0 zv1 zv2 zv3
  clear HSV4ba9 A4V4ba9 A3V4ba9
  refine hK.out _ _ (HSV4ba9c.out) (fun hHeld=>?_)
  clear hK K
  try simp only [aP]
  refine rdy 13 ⟨none,.store 67 (.tmp 4) (.tmp 20),0,_,_,none⟩ rfl (fun K hK=>?_)
  obtain ⟨zv0,zv1,zv2,zv3,⟨z0,o0⟩,⟨z1,o1⟩,⟨z2,o2⟩,⟨z3,o3⟩⟩:=NumOr.facts A4V4ba9c.out
  obtain ⟨V4ba9cd,hN⟩:∃ W,W=((((V4ba9c.setCell ⟨g4,0,none⟩ (.int .u64 (yy0:Int))).setCell ⟨g4,1,none⟩ (.int .u64 (yy1:Int))).setCell ⟨g4,2,none⟩ (.int .u64 (yy2:Int))).setCell ⟨g4,3,none⟩ (.int .u64 (yy3:Int))):=⟨_,rfl⟩
  go_simp
  rw [←hN]
  have A4V4ba9cd:Hid (NumOr V4ba9cd g4 (some (en yy))):=lH (by rw [hN];exact NumOr.set A4V4ba9c.out Hyy.out)
  have HSV4ba9cd:=lH (by rw [hN];exact below4 HSV4ba9c.out HG4.out _ _ _ _:Below u0.heap.size u0 V4ba9cd)
  have A3V4ba9cd:Hid (NumOr V4ba9cd g3 (some (en zz))):=lH (by rw [hN];exact NumOr.aside4 A3V4ba9c.out HNE43.out.symm _ _ _ _)
  clear hN z0 o0 z1 o1 z2 o2 z3 o3 zv0 zv1 zv2 zv3
  clear HSV4ba9c A4V4ba9c A3V4ba9c
  refine hK.out _ _ (HSV4ba9cd.out) (fun hHeld=>?_)
  clear hK K
  try simp only [aP]
  refine wpAnyH_done (by kernel_rfl) ?_ _
  refine NoPanic.normal ?_
  rw [HQ1.out]
  exact ⟨rfl,g3,g4,rfl,rfl,HF.out _ HSV4ba9cd.out,A3V4ba9cd.out,A4V4ba9cd.out,HU0.out,HU1.out⟩
  refine AllReadyH.cons (o:=⟨some 3,.alloc 67,0,_,_,none⟩) rfl (fun K hK=>?_) ?_
  obtain ⟨Va,hN⟩:∃ W,W=V.alloc (.cells #[.int .u64 0,.int .u64 0,.int .u64 0,.int .u64 0] 67):=⟨_,rfl⟩
  go_simp
  rw [←hN]
  obtain ⟨g3,hg⟩:∃ g,g=V.heap.size:=⟨_,rfl⟩
  rw [←hg]
  have A3Va:Hid (NumOr Va g3 none):=lH (by rw [hN,hg];exact NumOr.fresh _)
  have HSVa:=lH (by rw [hN];exact HSV.out.alloc HSV.out.size _:Below u0.heap.size u0 Va)
  have HG3:Hid (u0.heap.size≤g3):=lH (by rw [hg];exact HSV.out.size)
  clear hN hg
  clear HSV
  refine hK.out _ _ (HSVa.out) (fun hHeld=>?_)
  clear hK K
  try simp only [aP]
  refine wpAnyH_ready (rs:=[4,11]) (by kernel_rfl) (by simp) ?_
  refine AllReadyH.cons (o:=⟨some 15,.call ⟨ .value (.func 56),#[.tmp 12,.tmp 14],#[67,67]⟩,67,_,_,none⟩) rfl (fun K hK=>?_) ?_
  go_simp
  refine (mulE Va (HM0.out.under HSVa.out) j.z j.z Hz.out Hz.out (by rw [←Ezz.out];exact Hzz.out)).mono ?_
  rintro e Va4 ⟨rfl,hbN⟩
  have HSVa4:=lH (HSVa.out.trans (hbN.mono HSVa.out.size))
  have A3Va4:Hid (NumOr Va4 g3 none):=lH (NumOr.under A3Va.out hbN)
  clear hbN
  clear HSVa A3Va
  go_simp
  refine hK.out _ _ (HSVa4.out) (fun hHeld=>?_)
  clear hK K
  try simp only [aP]
  refine wpAnyH_ready (rs:=[9,11]) (by kernel_rfl) (by simp) ?_
  refine AllReadyH.cons (o:=⟨some 20,.call ⟨ .value (.func 56),#[.tmp 17,.tmp 19],#[67,67]⟩,67,_,_,none⟩) rfl (fun K hK=>?_) ?_
  go_simp
  refine (mulE Va4 (HM0.out.under HSVa4.out) j.y j.y Hy.out Hy.out (by rw [←Eyy.out];exact Hyy.out)).mono ?_
  rintro e Va49 ⟨rfl,hbN⟩
  have HSVa49:=lH (HSVa4.out.trans (hbN.mono HSVa4.out.size))
  have A3Va49:Hid (NumOr Va49 g3 none):=lH (NumOr.under A3Va4.out hbN)
  clear hbN
  clear HSVa4 A3Va4
  go_simp
  refine hK.out _ _ (HSVa49.out) (fun hHeld=>?_)
  clear hK K
  try simp only [aP]
  refine rdy 11 ⟨some 4,.alloc 67,0,_,_,none⟩ rfl (fun K hK=>?_)
  obtain ⟨Va49b,hN⟩:∃ W,W=Va49.alloc (.cells #[.int .u64 0,.int .u64 0,.int .u64 0,.int .u64 0] 67):=⟨_,rfl⟩
  go_simp
  rw [←hN]
  obtain ⟨g4,hg⟩:∃ g,g=Va49.heap.size:=⟨_,rfl⟩
  rw [←hg]
  have A4Va49b:Hid (NumOr Va49b g4 none):=lH (by rw [hN,hg];exact NumOr.fresh _)
  have HSVa49b:=lH (by rw [hN];exact HSVa49.out.alloc HSVa49.out.size _:Below u0.heap.size u0 Va49b)
  have HG4:Hid (u0.heap.size≤g4):=lH (by rw [hg];exact HSVa49.out.size)
  have HNE34:Hid (g3≠g4):=lH (by rw [hg];exact Nat.ne_of_lt A3Va49.out.lt)
  have A3Va49b:Hid (NumOr Va49b g3 none):=lH (by rw [hN];exact NumOr.alloc A3Va49.out _)
  clear hN hg
  have HU0:=lH (show w.heap.size+1<g3 from (by have h1:=Holds.lt RB0.out;have h2:=HG3.out;omega))
  have HU1:=lH (show w.heap.size+1<g4 from (by have h1:=Holds.lt RB0.out;have h2:=HG4.out;omega))
  clear HSVa49 A3Va49
  refine hK.out _ _ (HSVa49b.out) (fun hHeld=>?_)
  clear hK K
  try simp only [aP]
  refine rdy 12 ⟨none,.store 67 (.tmp 3) (.tmp 15),0,_,_,none⟩ rfl (fun K hK=>?_)
  obtain ⟨zv0,zv1,zv2,zv3,⟨z0,o0⟩,⟨z1,o1⟩,⟨z2,o2⟩,⟨z3,o3⟩⟩:=NumOr.facts A3Va49b.out
  obtain ⟨Va49bc,hN⟩:∃ W,W=((((Va49b.setCell ⟨g3,0,none⟩ (.int .u64 (zz0:Int))).setCell ⟨g3,1,none⟩ (.int .u64 (zz1:Int))).setCell ⟨g3,2,none⟩ (.int .u64 (zz2:Int))).setCell ⟨g3,3,none⟩ (.int .u64 (zz3:Int))):=⟨_,rfl⟩
  go_simp
  rw [←hN]
  have A3Va49bc:Hid (NumOr Va49bc g3 (some (en zz))):=lH (by rw [hN];exact NumOr.set A3Va49b.out Hzz.out)
  have HSVa49bc:=lH (by rw [hN];exact below4 HSVa49b.out HG3.out _ _ _ _:Below u0.heap.size u0 Va49bc)
  have A4Va49bc:Hid (NumOr Va49bc g4 none):=lH (by rw [hN];exact NumOr.aside4 A4Va49b.out HNE34.out.symm _ _ _ _)
  clear hN z0 o0 z1 o1 z2 o2 z3 o3 zv0 zv1 zv2 zv3
  clear HSVa49b A3Va49b A4Va49b
  refine hK.out _ _ (HSVa49bc.out) (fun hHeld=>?_)
  clear hK K
  try simp only [aP]
  refine rdy 13 ⟨none,.store 67 (.tmp 4) (.tmp 20),0,_,_,none⟩ rfl (fun K hK=>?_)
  obtain ⟨zv0,zv1,zv2,zv3,⟨z0,o0⟩,⟨z1,o1⟩,⟨z2,o2⟩,⟨z3,o3⟩⟩:=NumOr.facts A4Va49bc.out
  obtain ⟨Va49bcd,hN⟩:∃ W,W=((((Va49bc.setCell ⟨g4,0,none⟩ (.int .u64 (yy0:Int))).setCell ⟨g4,1,none⟩ (.int .u64 (yy1:Int))).setCell ⟨g4,2,none⟩ (.int .u64 (yy2:Int))).setCell ⟨g4,3,none⟩ (.int .u64 (yy3:Int))):=⟨_,rfl⟩
  go_simp
  rw [←hN]
  have A4Va49bcd:Hid (NumOr Va49bcd g4 (some (en yy))):=lH (by rw [hN];exact NumOr.set A4Va49bc.out Hyy.out)
  have HSVa49bcd:=lH (by rw [hN];exact below4 HSVa49bc.out HG4.out _ _ _ _:Below u0.heap.size u0 Va49bcd)
  have A3Va49bcd:Hid (NumOr Va49bcd g3 (some (en zz))):=lH (by rw [hN];exact NumOr.aside4 A3Va49bc.out HNE34.out _ _ _ _)
  clear hN z0 o0 z1 o1 z2 o2 z3 o3 zv0 zv1 zv2 zv3
  clear HSVa49bc A3Va49bc A4Va49bc
  refine hK.out _ _ (HSVa49bcd.out) (fun hHeld=>?_)
  clear hK K
  try simp only [aP]
  refine wpAnyH_done (by kernel_rfl) ?_ _
  refine NoPanic.normal ?_
  rw [HQ1.out]
  exact ⟨rfl,g3,g4,rfl,rfl,HF.out _ HSVa49bcd.out,A3Va49bcd.out,A4Va49bcd.out,HU0.out,HU1.out⟩
  refine AllReadyH.cons (o:=⟨some 4,.alloc 67,0,_,_,none⟩) rfl (fun K hK=>?_) AllReadyH.nil
  obtain ⟨Va4b,hN⟩:∃ W,W=Va4.alloc (.cells #[.int .u64 0,.int .u64 0,.int .u64 0,.int .u64 0] 67):=⟨_,rfl⟩
  go_simp
  rw [←hN]
  obtain ⟨g4,hg⟩:∃ g,g=Va4.heap.size:=⟨_,rfl⟩
  rw [←hg]
  have A4Va4b:Hid (NumOr Va4b g4 none):=lH (by rw [hN,hg];exact NumOr.fresh _)
  have HSVa4b:=lH (by rw [hN];exact HSVa4.out.alloc HSVa4.out.size _:Below u0.heap.size u0 Va4b)
  have HG4:Hid (u0.heap.size≤g4):=lH (by rw [hg];exact HSVa4.out.size)
  have HNE34:Hid (g3≠g4):=lH (by rw [hg];exact Nat.ne_of_lt A3Va4.out.lt)
  have A3Va4b:Hid (NumOr Va4b g3 none):=lH (by rw [hN];exact NumOr.alloc A3Va4.out _)
  clear hN hg
  have HU0:=lH (show w.heap.size+1<g3 from (by have h1:=Holds.lt RB0.out;have h2:=HG3.out;omega))
  have HU1:=lH (show w.heap.size+1<g4 from (by have h1:=Holds.lt RB0.out;have h2:=HG4.out;omega))
  clear HSVa4 A3Va4
  refine hK.out _ _ (HSVa4b.out) (fun hHeld=>?_)
  clear hK K
  try simp only [aP]
  refine rdy 9 ⟨some 20,.call ⟨ .value (.func 56),#[.tmp 17,.tmp 19],#[67,67]⟩,67,_,_,none⟩ rfl (fun K hK=>?_)
  go_simp
  refine (mulE Va4b (HM0.out.under HSVa4b.out) j.y j.y Hy.out Hy.out (by rw [←Eyy.out];exact Hyy.out)).mono ?_
  rintro e Va4b9 ⟨rfl,hbN⟩
  have HSVa4b9:=lH (HSVa4b.out.trans (hbN.mono HSVa4b.out.size))
  have A3Va4b9:Hid (NumOr Va4b9 g3 none):=lH (NumOr.under A3Va4b.out hbN)
  have A4Va4b9:Hid (NumOr Va4b9 g4 none):=lH (NumOr.under A4Va4b.out hbN)
  clear hbN
  clear HSVa4b A3Va4b A4Va4b
  go_simp
  refine hK.out _ _ (HSVa4b9.out) (fun hHeld=>?_)
  clear hK K
  try simp only [aP]
  refine rdy 12 ⟨none,.store 67 (.tmp 3) (.tmp 15),0,_,_,none⟩ rfl (fun K hK=>?_)
  obtain ⟨zv0,zv1,zv2,zv3,⟨z0,o0⟩,⟨z1,o1⟩,⟨z2,o2⟩,⟨z3,o3⟩⟩:=NumOr.facts A3Va4b9.out
  obtain ⟨Va4b9c,hN⟩:∃ W,W=((((Va4b9.setCell ⟨g3,0,none⟩ (.int .u64 (zz0:Int))).setCell ⟨g3,1,none⟩ (.int .u64 (zz1:Int))).setCell ⟨g3,2,none⟩ (.int .u64 (zz2:Int))).setCell ⟨g3,3,none⟩ (.int .u64 (zz3:Int))):=⟨_,rfl⟩
  go_simp
  rw [←hN]
  have A3Va4b9c:Hid (NumOr Va4b9c g3 (some (en zz))):=lH (by rw [hN];exact NumOr.set A3Va4b9.out Hzz.out)
  have HSVa4b9c:=lH (by rw [hN];exact below4 HSVa4b9.out HG3.out _ _ _ _:Below u0.heap.size u0 Va4b9c)
  have A4Va4b9c:Hid (NumOr Va4b9c g4 none):=lH (by rw [hN];exact NumOr.aside4 A4Va4b9.out HNE34.out.symm _ _ _ _)
  clear hN z0 o0 z1 o1 z2 o2 z3 o3 zv0 zv1 zv2 zv3
  clear HSVa4b9 A3Va4b9 A4Va4b9
  refine hK.out _ _ (HSVa4b9c.out) (fun hHeld=>?_)
  clear hK K
  try simp only [aP]
  refine rdy 13 ⟨none,.store 67 (.tmp 4) (.tmp 20),0,_,_,none⟩ rfl (fun K hK=>?_)
  obtain ⟨zv0,zv1,zv2,zv3,⟨z0,o0⟩,⟨z1,o1⟩,⟨z2,o2⟩,⟨z3,o3⟩⟩:=NumOr.facts A4Va4b9c.out
  obtain ⟨Va4b9cd,hN⟩:∃ W,W=((((Va4b9c.setCell ⟨g4,0,none⟩ (.int .u64 (yy0:Int))).setCell ⟨g4,1,none⟩ (.int .u64 (yy1:Int))).setCell ⟨g4,2,none⟩ (.int .u64 (yy2:Int))).setCell ⟨g4,3,none⟩ (.int .u64 (yy3:Int))):=⟨_,rfl⟩
  go_simp
  rw [←hN]
  have A4Va4b9cd:Hid (NumOr Va4b9cd g4 (some (en yy))):=lH (by rw [hN];exact NumOr.set A4Va4b9c.out Hyy.out)
  have HSVa4b9cd:=lH (by rw [hN];exact below4 HSVa4b9c.out HG4.out _ _ _ _:Below u0.heap.size u0 Va4b9cd)
  have A3Va4b9cd:Hid (NumOr Va4b9cd g3 (some (en zz))):=lH (by rw [hN];exact NumOr.aside4 A3Va4b9c.out HNE34.out _ _ _ _)
  clear hN z0 o0 z1 o1 z2 o2 z3 o3 zv0 zv1 zv2 zv3
  clear HSVa4b9c A3Va4b9c A4Va4b9c
  refine hK.out _ _ (HSVa4b9cd.out) (fun hHeld=>?_)
  clear hK K
  try simp only [aP]
  refine wpAnyH_done (by kernel_rfl) ?_ _
  refine NoPanic.normal ?_
  rw [HQ1.out]
  exact ⟨rfl,g3,g4,rfl,rfl,HF.out _ HSVa4b9cd.out,A3Va4b9cd.out,A4Va4b9cd.out,HU0.out,HU1.out⟩
  refine AllReadyH.cons (o:=⟨some 4,.alloc 67,0,_,_,none⟩) rfl (fun K hK=>?_) AllReadyH.nil
  obtain ⟨Vab,hN⟩:∃ W,W=Va.alloc (.cells #[.int .u64 0,.int .u64 0,.int .u64 0,.int .u64 0] 67):=⟨_,rfl⟩
  go_simp
  rw [←hN]
  obtain ⟨g4,hg⟩:∃ g,g=Va.heap.size:=⟨_,rfl⟩
  rw [←hg]
  have A4Vab:Hid (NumOr Vab g4 none):=lH (by rw [hN,hg];exact NumOr.fresh _)
  have HSVab:=lH (by rw [hN];exact HSVa.out.alloc HSVa.out.size _:Below u0.heap.size u0 Vab)
  have HG4:Hid (u0.heap.size≤g4):=lH (by rw [hg];exact HSVa.out.size)
  have HNE34:Hid (g3≠g4):=lH (by rw [hg];exact Nat.ne_of_lt A3Va.out.lt)
  have A3Vab:Hid (NumOr Vab g3 none):=lH (by rw [hN];exact NumOr.alloc A3Va.out _)
  clear hN hg
  have HU0:=lH (show w.heap.size+1<g3 from (by have h1:=Holds.lt RB0.out;have h2:=HG3.out;omega))
  have HU1:=lH (show w.heap.size+1<g4 from (by have h1:=Holds.lt RB0.out;have h2:=HG4.out;omega))
  clear HSVa A3Va
  refine hK.out _ _ (HSVab.out) (fun hHeld=>?_)
  clear hK K
  try simp only [aP]
  refine rdy 4 ⟨some 15,.call ⟨ .value (.func 56),#[.tmp 12,.tmp 14],#[67,67]⟩,67,_,_,none⟩ rfl (fun K hK=>?_)
  go_simp
  refine (mulE Vab (HM0.out.under HSVab.out) j.z j.z Hz.out Hz.out (by rw [←Ezz.out];exact Hzz.out)).mono ?_
  rintro e Vab4 ⟨rfl,hbN⟩
  have HSVab4:=lH (HSVab.out.trans (hbN.mono HSVab.out.size))
  have A3Vab4:Hid (NumOr Vab4 g3 none):=lH (NumOr.under A3Vab.out hbN)
  have A4Vab4:Hid (NumOr Vab4 g4 none):=lH (NumOr.under A4Vab.out hbN)
  clear hbN
  clear HSVab A3Vab A4Vab
  go_simp
  refine hK.out _ _ (HSVab4.out) (fun hHeld=>?_)
  clear hK K
  try simp only [aP]
  refine rdy 9 ⟨some 20,.call ⟨ .value (.func 56),#[.tmp 17,.tmp 19],#[67,67]⟩,67,_,_,none⟩ rfl (fun K hK=>?_)
  go_simp
  refine (mulE Vab4 (HM0.out.under HSVab4.out) j.y j.y Hy.out Hy.out (by rw [←Eyy.out];exact Hyy.out)).mono ?_
  rintro e Vab49 ⟨rfl,hbN⟩
  have HSVab49:=lH (HSVab4.out.trans (hbN.mono HSVab4.out.size))
  have A3Vab49:Hid (NumOr Vab49 g3 none):=lH (NumOr.under A3Vab4.out hbN)
  have A4Vab49:Hid (NumOr Vab49 g4 none):=lH (NumOr.under A4Vab4.out hbN)
  clear hbN
  clear HSVab4 A3Vab4 A4Vab4
  go_simp
  refine hK.out _ _ (HSVab49.out) (fun hHeld=>?_)
  clear hK K
  try simp only [aP]
  refine rdy 12 ⟨none,.store 67 (.tmp 3) (.tmp 15),0,_,_,none⟩ rfl (fun K hK=>?_)
  obtain ⟨zv0,zv1,zv2,zv3,⟨z0,o0⟩,⟨z1,o1⟩,⟨z2,o2⟩,⟨z3,o3⟩⟩:=NumOr.facts A3Vab49.out
  obtain ⟨Vab49c,hN⟩:∃ W,W=((((Vab49.setCell ⟨g3,0,none⟩ (.int .u64 (zz0:Int))).setCell ⟨g3,1,none⟩ (.int .u64 (zz1:Int))).setCell ⟨g3,2,none⟩ (.int .u64 (zz2:Int))).setCell ⟨g3,3,none⟩ (.int .u64 (zz3:Int))):=⟨_,rfl⟩
  go_simp
  rw [←hN]
  have A3Vab49c:Hid (NumOr Vab49c g3 (some (en zz))):=lH (by rw [hN];exact NumOr.set A3Vab49.out Hzz.out)
  have HSVab49c:=lH (by rw [hN];exact below4 HSVab49.out HG3.out _ _ _ _:Below u0.heap.size u0 Vab49c)
  have A4Vab49c:Hid (NumOr Vab49c g4 none):=lH (by rw [hN];exact NumOr.aside4 A4Vab49.out HNE34.out.symm _ _ _ _)
  clear hN z0 o0 z1 o1 z2 o2 z3 o3 zv0 zv1 zv2 zv3
  clear HSVab49 A3Vab49 A4Vab49
  refine hK.out _ _ (HSVab49c.out) (fun hHeld=>?_)
  clear hK K
  try simp only [aP]
  refine rdy 13 ⟨none,.store 67 (.tmp 4) (.tmp 20),0,_,_,none⟩ rfl (fun K hK=>?_)
  obtain ⟨zv0,zv1,zv2,zv3,⟨z0,o0⟩,⟨z1,o1⟩,⟨z2,o2⟩,⟨z3,o3⟩⟩:=NumOr.facts A4Vab49c.out
  obtain ⟨Vab49cd,hN⟩:∃ W,W=((((Vab49c.setCell ⟨g4,0,none⟩ (.int .u64 (yy0:Int))).setCell ⟨g4,1,none⟩ (.int .u64 (yy1:Int))).setCell ⟨g4,2,none⟩ (.int .u64 (yy2:Int))).setCell ⟨g4,3,none⟩ (.int .u64 (yy3:Int))):=⟨_,rfl⟩
  go_simp
  rw [←hN]
  have A4Vab49cd:Hid (NumOr Vab49cd g4 (some (en yy))):=lH (by rw [hN];exact NumOr.set A4Vab49c.out Hyy.out)
  have HSVab49cd:=lH (by rw [hN];exact below4 HSVab49c.out HG4.out _ _ _ _:Below u0.heap.size u0 Vab49cd)
  have A3Vab49cd:Hid (NumOr Vab49cd g3 (some (en zz))):=lH (by rw [hN];exact NumOr.aside4 A3Vab49c.out HNE34.out _ _ _ _)
  clear hN z0 o0 z1 o1 z2 o2 z3 o3 zv0 zv1 zv2 zv3
  clear HSVab49c A3Vab49c A4Vab49c
  refine hK.out _ _ (HSVab49cd.out) (fun hHeld=>?_)
  clear hK K
  try simp only [aP]
  refine wpAnyH_done (by kernel_rfl) ?_ _
  refine NoPanic.normal ?_
  rw [HQ1.out]
  exact ⟨rfl,g3,g4,rfl,rfl,HF.out _ HSVab49cd.out,A3Vab49cd.out,A4Vab49cd.out,HU0.out,HU1.out⟩
  refine AllReadyH.cons (o:=⟨some 4,.alloc 67,0,_,_,none⟩) rfl (fun K hK=>?_) AllReadyH.nil
  obtain ⟨Vb,hN⟩:∃ W,W=V.alloc (.cells #[.int .u64 0,.int .u64 0,.int .u64 0,.int .u64 0] 67):=⟨_,rfl⟩
  go_simp
  rw [←hN]
  obtain ⟨g4,hg⟩:∃ g,g=V.heap.size:=⟨_,rfl⟩
  rw [←hg]
  have A4Vb:Hid (NumOr Vb g4 none):=lH (by rw [hN,hg];exact NumOr.fresh _)
  have HSVb:=lH (by rw [hN];exact HSV.out.alloc HSV.out.size _:Below u0.heap.size u0 Vb)
  have HG4:Hid (u0.heap.size≤g4):=lH (by rw [hg];exact HSV.out.size)
  clear hN hg
  clear HSV
  refine hK.out _ _ (HSVb.out) (fun hHeld=>?_)
  clear hK K
  try simp only [aP]
  refine wpAnyH_ready (rs:=[4,10]) (by kernel_rfl) (by simp) ?_
  refine AllReadyH.cons (o:=⟨some 15,.call ⟨ .value (.func 56),#[.tmp 12,.tmp 14],#[67,67]⟩,67,_,_,none⟩) rfl (fun K hK=>?_) ?_
  go_simp
  refine (mulE Vb (HM0.out.under HSVb.out) j.z j.z Hz.out Hz.out (by rw [←Ezz.out];exact Hzz.out)).mono ?_
  rintro e Vb4 ⟨rfl,hbN⟩
  have HSVb4:=lH (HSVb.out.trans (hbN.mono HSVb.out.size))
  have A4Vb4:Hid (NumOr Vb4 g4 none):=lH (NumOr.under A4Vb.out hbN)
  clear hbN
  clear HSVb A4Vb
  go_simp
  refine hK.out _ _ (HSVb4.out) (fun hHeld=>?_)
  clear hK K
  try simp only [aP]
  refine wpAnyH_ready (rs:=[9,10]) (by kernel_rfl) (by simp) ?_
  refine AllReadyH.cons (o:=⟨some 20,.call ⟨ .value (.func 56),#[.tmp 17,.tmp 19],#[67,67]⟩,67,_,_,none⟩) rfl (fun K hK=>?_) ?_
  go_simp
  refine (mulE Vb4 (HM0.out.under HSVb4.out) j.y j.y Hy.out Hy.out (by rw [←Eyy.out];exact Hyy.out)).mono ?_
  rintro e Vb49 ⟨rfl,hbN⟩
  have HSVb49:=lH (HSVb4.out.trans (hbN.mono HSVb4.out.size))
  have A4Vb49:Hid (NumOr Vb49 g4 none):=lH (NumOr.under A4Vb4.out hbN)
  clear hbN
  clear HSVb4 A4Vb4
  go_simp
  refine hK.out _ _ (HSVb49.out) (fun hHeld=>?_)
  clear hK K
  try simp only [aP]
  refine rdy 10 ⟨some 3,.alloc 67,0,_,_,none⟩ rfl (fun K hK=>?_)
  obtain ⟨Vb49a,hN⟩:∃ W,W=Vb49.alloc (.cells #[.int .u64 0,.int .u64 0,.int .u64 0,.int .u64 0] 67):=⟨_,rfl⟩
  go_simp
  rw [←hN]
  obtain ⟨g3,hg⟩:∃ g,g=Vb49.heap.size:=⟨_,rfl⟩
  rw [←hg]
  have A3Vb49a:Hid (NumOr Vb49a g3 none):=lH (by rw [hN,hg];exact NumOr.fresh _)
  have HSVb49a:=lH (by rw [hN];exact HSVb49.out.alloc HSVb49.out.size _:Below u0.heap.size u0 Vb49a)
  have HG3:Hid (u0.heap.size≤g3):=lH (by rw [hg];exact HSVb49.out.size)
  have HNE43:Hid (g4≠g3):=lH (by rw [hg];exact Nat.ne_of_lt A4Vb49.out.lt)
  have A4Vb49a:Hid (NumOr Vb49a g4 none):=lH (by rw [hN];exact NumOr.alloc A4Vb49.out _)
  clear hN hg
  have HU0:=lH (show w.heap.size+1<g3 from (by have h1:=Holds.lt RB0.out;have h2:=HG3.out;omega))
  have HU1:=lH (show w.heap.size+1<g4 from (by have h1:=Holds.lt RB0.out;have h2:=HG4.out;omega))
  clear HSVb49 A4Vb49
  refine hK.out _ _ (HSVb49a.out) (fun hHeld=>?_)
  clear hK K
  try simp only [aP]
  refine rdy 12 ⟨none,.store 67 (.tmp 3) (.tmp 15),0,_,_,none⟩ rfl (fun K hK=>?_)
  obtain ⟨zv0,zv1,zv2,zv3,⟨z0,o0⟩,⟨z1,o1⟩,⟨z2,o2⟩,⟨z3,o3⟩⟩:=NumOr.facts A3Vb49a.out
  obtain ⟨Vb49ac,hN⟩:∃ W,W=((((Vb49a.setCell ⟨g3,0,none⟩ (.int .u64 (zz0:Int))).setCell ⟨g3,1,none⟩ (.int .u64 (zz1:Int))).setCell ⟨g3,2,none⟩ (.int .u64 (zz2:Int))).setCell ⟨g3,3,none⟩ (.int .u64 (zz3:Int))):=⟨_,rfl⟩
  go_simp
  rw [←hN]
  have A3Vb49ac:Hid (NumOr Vb49ac g3 (some (en zz))):=lH (by rw [hN];exact NumOr.set A3Vb49a.out Hzz.out)
  have HSVb49ac:=lH (by rw [hN];exact below4 HSVb49a.out HG3.out _ _ _ _:Below u0.heap.size u0 Vb49ac)
  have A4Vb49ac:Hid (NumOr Vb49ac g4 none):=lH (by rw [hN];exact NumOr.aside4 A4Vb49a.out HNE43.out _ _ _ _)
  clear hN z0 o0 z1 o1 z2 o2 z3 o3 zv0 zv1 zv2 zv3
  clear HSVb49a A4Vb49a A3Vb49a
  refine hK.out _ _ (HSVb49ac.out) (fun hHeld=>?_)
  clear hK K
  try simp only [aP]
  refine rdy 13 ⟨none,.store 67 (.tmp 4) (.tmp 20),0,_,_,none⟩ rfl (fun K hK=>?_)
  obtain ⟨zv0,zv1,zv2,zv3,⟨z0,o0⟩,⟨z1,o1⟩,⟨z2,o2⟩,⟨z3,o3⟩⟩:=NumOr.facts A4Vb49ac.out
  obtain ⟨Vb49acd,hN⟩:∃ W,W=((((Vb49ac.setCell ⟨g4,0,none⟩ (.int .u64 (yy0:Int))).setCell ⟨g4,1,none⟩ (.int .u64 (yy1:Int))).setCell ⟨g4,2,none⟩ (.int .u64 (yy2:Int))).setCell ⟨g4,3,none⟩ (.int .u64 (yy3:Int))):=⟨_,rfl⟩
  go_simp
  rw [←hN]
  have A4Vb49acd:Hid (NumOr Vb49acd g4 (some (en yy))):=lH (by rw [hN];exact NumOr.set A4Vb49ac.out Hyy.out)
  have HSVb49acd:=lH (by rw [hN];exact below4 HSVb49ac.out HG4.out _ _ _ _:Below u0.heap.size u0 Vb49acd)
  have A3Vb49acd:Hid (NumOr Vb49acd g3 (some (en zz))):=lH (by rw [hN];exact NumOr.aside4 A3Vb49ac.out HNE43.out.symm _ _ _ _)
  clear hN z0 o0 z1 o1 z2 o2 z3 o3 zv0 zv1 zv2 zv3
  clear HSVb49ac A4Vb49ac A3Vb49ac
  refine hK.out _ _ (HSVb49acd.out) (fun hHeld=>?_)
  clear hK K
  try simp only [aP]
  refine wpAnyH_done (by kernel_rfl) ?_ _
  refine NoPanic.normal ?_
  rw [HQ1.out]
  exact ⟨rfl,g3,g4,rfl,rfl,HF.out _ HSVb49acd.out,A3Vb49acd.out,A4Vb49acd.out,HU0.out,HU1.out⟩
  refine AllReadyH.cons (o:=⟨some 3,.alloc 67,0,_,_,none⟩) rfl (fun K hK=>?_) AllReadyH.nil
  obtain ⟨Vb4a,hN⟩:∃ W,W=Vb4.alloc (.cells #[.int .u64 0,.int .u64 0,.int .u64 0,.int .u64 0] 67):=⟨_,rfl⟩
  go_simp
  rw [←hN]
  obtain ⟨g3,hg⟩:∃ g,g=Vb4.heap.size:=⟨_,rfl⟩
  rw [←hg]
  have A3Vb4a:Hid (NumOr Vb4a g3 none):=lH (by rw [hN,hg];exact NumOr.fresh _)
  have HSVb4a:=lH (by rw [hN];exact HSVb4.out.alloc HSVb4.out.size _:Below u0.heap.size u0 Vb4a)
  have HG3:Hid (u0.heap.size≤g3):=lH (by rw [hg];exact HSVb4.out.size)
  have HNE43:Hid (g4≠g3):=lH (by rw [hg];exact Nat.ne_of_lt A4Vb4.out.lt)
  have A4Vb4a:Hid (NumOr Vb4a g4 none):=lH (by rw [hN];exact NumOr.alloc A4Vb4.out _)
  clear hN hg
  have HU0:=lH (show w.heap.size+1<g3 from (by have h1:=Holds.lt RB0.out;have h2:=HG3.out;omega))
  have HU1:=lH (show w.heap.size+1<g4 from (by have h1:=Holds.lt RB0.out;have h2:=HG4.out;omega))
  clear HSVb4 A4Vb4
  refine hK.out _ _ (HSVb4a.out) (fun hHeld=>?_)
  clear hK K
  try simp only [aP]
  refine rdy 9 ⟨some 20,.call ⟨ .value (.func 56),#[.tmp 17,.tmp 19],#[67,67]⟩,67,_,_,none⟩ rfl (fun K hK=>?_)
  go_simp
  refine (mulE Vb4a (HM0.out.under HSVb4a.out) j.y j.y Hy.out Hy.out (by rw [←Eyy.out];exact Hyy.out)).mono ?_
  rintro e Vb4a9 ⟨rfl,hbN⟩
  have HSVb4a9:=lH (HSVb4a.out.trans (hbN.mono HSVb4a.out.size))
  have A4Vb4a9:Hid (NumOr Vb4a9 g4 none):=lH (NumOr.under A4Vb4a.out hbN)
  have A3Vb4a9:Hid (NumOr Vb4a9 g3 none):=lH (NumOr.under A3Vb4a.out hbN)
  clear hbN
  clear HSVb4a A4Vb4a A3Vb4a
  go_simp
  refine hK.out _ _ (HSVb4a9.out) (fun hHeld=>?_)
  clear hK K
  try simp only [aP]
  refine rdy 12 ⟨none,.store 67 (.tmp 3) (.tmp 15),0,_,_,none⟩ rfl (fun K hK=>?_)
  obtain ⟨zv0,zv1,zv2,zv3,⟨z0,o0⟩,⟨z1,o1⟩,⟨z2,o2⟩,⟨z3,o3⟩⟩:=NumOr.facts A3Vb4a9.out
  obtain ⟨Vb4a9c,hN⟩:∃ W,W=((((Vb4a9.setCell ⟨g3,0,none⟩ (.int .u64 (zz0:Int))).setCell ⟨g3,1,none⟩ (.int .u64 (zz1:Int))).setCell ⟨g3,2,none⟩ (.int .u64 (zz2:Int))).setCell ⟨g3,3,none⟩ (.int .u64 (zz3:Int))):=⟨_,rfl⟩
  go_simp
  rw [←hN]
  have A3Vb4a9c:Hid (NumOr Vb4a9c g3 (some (en zz))):=lH (by rw [hN];exact NumOr.set A3Vb4a9.out Hzz.out)
  have HSVb4a9c:=lH (by rw [hN];exact below4 HSVb4a9.out HG3.out _ _ _ _:Below u0.heap.size u0 Vb4a9c)
  have A4Vb4a9c:Hid (NumOr Vb4a9c g4 none):=lH (by rw [hN];exact NumOr.aside4 A4Vb4a9.out HNE43.out _ _ _ _)
  clear hN z0 o0 z1 o1 z2 o2 z3 o3 zv0 zv1 zv2 zv3
  clear HSVb4a9 A4Vb4a9 A3Vb4a9
  refine hK.out _ _ (HSVb4a9c.out) (fun hHeld=>?_)
  clear hK K
  try simp only [aP]
  refine rdy 13 ⟨none,.store 67 (.tmp 4) (.tmp 20),0,_,_,none⟩ rfl (fun K hK=>?_)
  obtain ⟨zv0,zv1,zv2,zv3,⟨z0,o0⟩,⟨z1,o1⟩,⟨z2,o2⟩,⟨z3,o3⟩⟩:=NumOr.facts A4Vb4a9c.out
  obtain ⟨Vb4a9cd,hN⟩:∃ W,W=((((Vb4a9c.setCell ⟨g4,0,none⟩ (.int .u64 (yy0:Int))).setCell ⟨g4,1,none⟩ (.int .u64 (yy1:Int))).setCell ⟨g4,2,none⟩ (.int .u64 (yy2:Int))).setCell ⟨g4,3,none⟩ (.int .u64 (yy3:Int))):=⟨_,rfl⟩
  go_simp
  rw [←hN]
  have A4Vb4a9cd:Hid (NumOr Vb4a9cd g4 (some (en yy))):=lH (by rw [hN];exact NumOr.set A4Vb4a9c.out Hyy.out)
  have HSVb4a9cd:=lH (by rw [hN];exact below4 HSVb4a9c.out HG4.out _ _ _ _:Below u0.heap.size u0 Vb4a9cd)
  have A3Vb4a9cd:Hid (NumOr Vb4a9cd g3 (some (en zz))):=lH (by rw [hN];exact NumOr.aside4 A3Vb4a9c.out HNE43.out.symm _ _ _ _)
  clear hN z0 o0 z1 o1 z2 o2 z3 o3 zv0 zv1 zv2 zv3
  clear HSVb4a9c A4Vb4a9c A3Vb4a9c
  refine hK.out _ _ (HSVb4a9cd.out) (fun hHeld=>?_)
  clear hK K
  try simp only [aP]
  refine wpAnyH_done (by kernel_rfl) ?_ _
  refine NoPanic.normal ?_
  rw [HQ1.out]
  exact ⟨rfl,g3,g4,rfl,rfl,HF.out _ HSVb4a9cd.out,A3Vb4a9cd.out,A4Vb4a9cd.out,HU0.out,HU1.out⟩
  refine AllReadyH.cons (o:=⟨some 3,.alloc 67,0,_,_,none⟩) rfl (fun K hK=>?_) AllReadyH.nil
  obtain ⟨Vba,hN⟩:∃ W,W=Vb.alloc (.cells #[.int .u64 0,.int .u64 0,.int .u64 0,.int .u64 0] 67):=⟨_,rfl⟩
  go_simp
  rw [←hN]
  obtain ⟨g3,hg⟩:∃ g,g=Vb.heap.size:=⟨_,rfl⟩
  rw [←hg]
  have A3Vba:Hid (NumOr Vba g3 none):=lH (by rw [hN,hg];exact NumOr.fresh _)
  have HSVba:=lH (by rw [hN];exact HSVb.out.alloc HSVb.out.size _:Below u0.heap.size u0 Vba)
  have HG3:Hid (u0.heap.size≤g3):=lH (by rw [hg];exact HSVb.out.size)
  have HNE43:Hid (g4≠g3):=lH (by rw [hg];exact Nat.ne_of_lt A4Vb.out.lt)
  have A4Vba:Hid (NumOr Vba g4 none):=lH (by rw [hN];exact NumOr.alloc A4Vb.out _)
  clear hN hg
  have HU0:=lH (show w.heap.size+1<g3 from (by have h1:=Holds.lt RB0.out;have h2:=HG3.out;omega))
  have HU1:=lH (show w.heap.size+1<g4 from (by have h1:=Holds.lt RB0.out;have h2:=HG4.out;omega))
  clear HSVb A4Vb
  refine hK.out _ _ (HSVba.out) (fun hHeld=>?_)
  clear hK K
  try simp only [aP]
  refine rdy 4 ⟨some 15,.call ⟨ .value (.func 56),#[.tmp 12,.tmp 14],#[67,67]⟩,67,_,_,none⟩ rfl (fun K hK=>?_)
  go_simp
  refine (mulE Vba (HM0.out.under HSVba.out) j.z j.z Hz.out Hz.out (by rw [←Ezz.out];exact Hzz.out)).mono ?_
  rintro e Vba4 ⟨rfl,hbN⟩
  have HSVba4:=lH (HSVba.out.trans (hbN.mono HSVba.out.size))
  have A4Vba4:Hid (NumOr Vba4 g4 none):=lH (NumOr.under A4Vba.out hbN)
  have A3Vba4:Hid (NumOr Vba4 g3 none):=lH (NumOr.under A3Vba.out hbN)
  clear hbN
  clear HSVba A4Vba A3Vba
  go_simp
  refine hK.out _ _ (HSVba4.out) (fun hHeld=>?_)
  clear hK K
  try simp only [aP]
  refine rdy 9 ⟨some 20,.call ⟨ .value (.func 56),#[.tmp 17,.tmp 19],#[67,67]⟩,67,_,_,none⟩ rfl (fun K hK=>?_)
  go_simp
  refine (mulE Vba4 (HM0.out.under HSVba4.out) j.y j.y Hy.out Hy.out (by rw [←Eyy.out];exact Hyy.out)).mono ?_
  rintro e Vba49 ⟨rfl,hbN⟩
  have HSVba49:=lH (HSVba4.out.trans (hbN.mono HSVba4.out.size))
  have A4Vba49:Hid (NumOr Vba49 g4 none):=lH (NumOr.under A4Vba4.out hbN)
  have A3Vba49:Hid (NumOr Vba49 g3 none):=lH (NumOr.under A3Vba4.out hbN)
  clear hbN
  clear HSVba4 A4Vba4 A3Vba4
  go_simp
  refine hK.out _ _ (HSVba49.out) (fun hHeld=>?_)
  clear hK K
  try simp only [aP]
  refine rdy 12 ⟨none,.store 67 (.tmp 3) (.tmp 15),0,_,_,none⟩ rfl (fun K hK=>?_)
  obtain ⟨zv0,zv1,zv2,zv3,⟨z0,o0⟩,⟨z1,o1⟩,⟨z2,o2⟩,⟨z3,o3⟩⟩:=NumOr.facts A3Vba49.out
  obtain ⟨Vba49c,hN⟩:∃ W,W=((((Vba49.setCell ⟨g3,0,none⟩ (.int .u64 (zz0:Int))).setCell ⟨g3,1,none⟩ (.int .u64 (zz1:Int))).setCell ⟨g3,2,none⟩ (.int .u64 (zz2:Int))).setCell ⟨g3,3,none⟩ (.int .u64 (zz3:Int))):=⟨_,rfl⟩
  go_simp
  rw [←hN]
  have A3Vba49c:Hid (NumOr Vba49c g3 (some (en zz))):=lH (by rw [hN];exact NumOr.set A3Vba49.out Hzz.out)
  have HSVba49c:=lH (by rw [hN];exact below4 HSVba49.out HG3.out _ _ _ _:Below u0.heap.size u0 Vba49c)
  have A4Vba49c:Hid (NumOr Vba49c g4 none):=lH (by rw [hN];exact NumOr.aside4 A4Vba49.out HNE43.out _ _ _ _)
  clear hN z0 o0 z1 o1 z2 o2 z3 o3 zv0 zv1 zv2 zv3
  clear HSVba49 A4Vba49 A3Vba49
  refine hK.out _ _ (HSVba49c.out) (fun hHeld=>?_)
  clear hK K
  try simp only [aP]
  refine rdy 13 ⟨none,.store 67 (.tmp 4) (.tmp 20),0,_,_,none⟩ rfl (fun K hK=>?_)
  obtain ⟨zv0,zv1,zv2,zv3,⟨z0,o0⟩,⟨z1,o1⟩,⟨z2,o2⟩,⟨z3,o3⟩⟩:=NumOr.facts A4Vba49c.out
  obtain ⟨Vba49cd,hN⟩:∃ W,W=((((Vba49c.setCell ⟨g4,0,none⟩ (.int .u64 (yy0:Int))).setCell ⟨g4,1,none⟩ (.int .u64 (yy1:Int))).setCell ⟨g4,2,none⟩ (.int .u64 (yy2:Int))).setCell ⟨g4,3,none⟩ (.int .u64 (yy3:Int))):=⟨_,rfl⟩
  go_simp
  rw [←hN]
  have A4Vba49cd:Hid (NumOr Vba49cd g4 (some (en yy))):=lH (by rw [hN];exact NumOr.set A4Vba49c.out Hyy.out)
  have HSVba49cd:=lH (by rw [hN];exact below4 HSVba49c.out HG4.out _ _ _ _:Below u0.heap.size u0 Vba49cd)
  have A3Vba49cd:Hid (NumOr Vba49cd g3 (some (en zz))):=lH (by rw [hN];exact NumOr.aside4 A3Vba49c.out HNE43.out.symm _ _ _ _)
  clear hN z0 o0 z1 o1 z2 o2 z3 o3 zv0 zv1 zv2 zv3
  clear HSVba49c A4Vba49c A3Vba49c
  refine hK.out _ _ (HSVba49cd.out) (fun hHeld=>?_)
  clear hK K
  try simp only [aP]
  refine wpAnyH_done (by kernel_rfl) ?_ _
  refine NoPanic.normal ?_
  rw [HQ1.out]
  exact ⟨rfl,g3,g4,rfl,rfl,HF.out _ HSVba49cd.out,A3Vba49cd.out,A4Vba49cd.out,HU0.out,HU1.out⟩
 rintro e a u1 hq
 rw [HQ1.out] at hq
 obtain ⟨rfl,g3,g4,htm,hdf,hst⟩:=hq
 have ST1:=lH hst
 clear hst HQ1 ST0
 obtain ⟨tm,df⟩:=a
 dsimp only at htm hdf
 subst hdf
 obtain ⟨U,hU⟩:∃ U:Nat→Value,∀ i,tm.getD i undef=U i:=⟨_,fun _=>rfl⟩
 simp only [tG,hU] at htm
 clear hU
 subst htm
 go_step
 go_step
 (repeat (first | (apply wp_seq_k;intro _ _) | apply wp_block))
 obtain ⟨QQ2,HQ2⟩:∃ Q:Exit→Act→World→Prop,Hid (Q=fun e a W=>e = .normal∧∃ (g5:Nat),a.tmps=#[tG a 0,.pointer (some ⟨w.heap.size,0,none⟩),.pointer (some ⟨w.heap.size+1,0,none⟩),.pointer (some ⟨g3,0,none⟩),.pointer (some ⟨g4,0,none⟩),.pointer (some ⟨g5,0,none⟩),tG a 6,tG a 7,tG a 8,tG a 9,tG a 10,tG a 11,tG a 12,tG a 13,tG a 14,tG a 15,tG a 16,tG a 17,tG a 18,tG a 19,tG a 20,tG a 21,tG a 22,tG a 23,tG a 24,tG a 25,tG a 26,tG a 27,tG a 28,tG a 29,tG a 30,tG a 31,tG a 32,tG a 33,tG a 34,tG a 35,tG a 36,tG a 37,tG a 38,tG a 39,tG a 40,tG a 41,tG a 42,tG a 43,tG a 44,tG a 45,tG a 46,tG a 47,tG a 48,tG a 49,tG a 50,tG a 51,tG a 52,tG a 53,tG a 54,tG a 55,tG a 56,tG a 57,tG a 58,tG a 59,tG a 60,tG a 61,tG a 62,tG a 63,tG a 64,tG a 65,tG a 66,tG a 67,tG a 68,tG a 69,tG a 70,tG a 71,tG a 72,tG a 73,tG a 74]∧a.defers=[]∧(((Holds W w.heap.size 69 #[.int .u64 (x0:Int),.int .u64 (x1:Int),.int .u64 (x2:Int),.int .u64 (x3:Int),.int .u64 (y0:Int),.int .u64 (y1:Int),.int .u64 (y2:Int),.int .u64 (y3:Int),.int .u64 (z0:Int),.int .u64 (z1:Int),.int .u64 (z2:Int),.int .u64 (z3:Int)])∧(Holds W (w.heap.size+1) 69 #[.int .u64 0,.int .u64 0,.int .u64 0,.int .u64 0,.int .u64 0,.int .u64 0,.int .u64 0,.int .u64 0,.int .u64 0,.int .u64 0,.int .u64 0,.int .u64 0])∧(Below w.heap.size w W)∧(CMet W))∧(NumOr W g3 (some (en zz)))∧(NumOr W g4 (some (en yy)))∧(w.heap.size+1<g3)∧(w.heap.size+1<g4))∧(NumOr W g5 (some (en xyy)))∧(w.heap.size+1<g5)):=⟨_,lH rfl⟩
 refine Code.wp_mono (Q:=QQ2) ?_ ?_
 rotate_left 1
 ·have BX1:=lH (ST1.out.1.1)
  have RB1:=lH (ST1.out.1.2.1)
  have HB1:=lH (ST1.out.1.2.2.1)
  have HM1:=lH (ST1.out.1.2.2.2)
  have L3_1:=lH (ST1.out.2.1)
  have L4_1:=lH (ST1.out.2.2.1)
  have NB_3:=lH (ST1.out.2.2.2.1)
  have NB_4:=lH (ST1.out.2.2.2.2)
  have Hx:=lH (FV.out.2.1)
  have Exyy:=lH (FV.out.2.2.2.2.2.2.1)
  have Hyy:=lH (FV.out.2.2.2.2.2.2.2.2.2.2.2.2.2.2.2.2.2.2.2.2.2.2.2.2.2.2.2.2.2.1)
  have Hxyy:=lH (FV.out.2.2.2.2.2.2.2.2.2.2.2.2.2.2.2.2.2.2.2.2.2.2.2.2.2.2.2.2.2.2.1)
  clear ST1 FV
  have k0:=BX1.out.cell 0
  have k1:=BX1.out.cell 1
  have k2:=BX1.out.cell 2
  have k3:=BX1.out.cell 3
  obtain ⟨p40,p41,p42,p43⟩:=L4_1.out.cells Hyy.out
  go_wp2_with fail
  have hbq0:Below u1.heap.size u1 u1:=Below.refl _ _
  refine (mulE u1 (HM1.out.under hbq0) j.x yy Hx.out Hyy.out (by rw [←Exyy.out];exact Hxyy.out)).mono ?_
  rintro e c2_0 ⟨rfl,hbN⟩
  have hbq1:=hbq0.trans (hbN.mono hbq0.size)
  clear hbN hbq0
  clear k0 k1 k2 k3 p40 p41 p42 p43
  go_wp2_with fail
  have hbk:Below u1.heap.size u1 (c2_0.alloc (.cells #[.int .u64 (xyy0:Int),.int .u64 (xyy1:Int),.int .u64 (xyy2:Int),.int .u64 (xyy3:Int)] 67)):=hbq1.alloc hbq1.size _
  have hnew:NumOr (c2_0.alloc (.cells #[.int .u64 (xyy0:Int),.int .u64 (xyy1:Int),.int .u64 (xyy2:Int),.int .u64 (xyy3:Int)] 67)) c2_0.heap.size (some (en xyy)):=by
   show Holds _ _ _ (nums .u64 (nm (en xyy)))
   rw [nv_of Hxyy.out]
   exact Holds.fresh _ _ _
  rw [HQ2.out]
  exact ⟨rfl,c2_0.heap.size,rfl,rfl,⟨⟨BX1.out.under hbk (Holds.lt BX1.out),RB1.out.under hbk (Holds.lt RB1.out),HB1.out.trans (hbk.mono HB1.out.size),HM1.out.under hbk⟩,NumOr.under L3_1.out hbk,NumOr.under L4_1.out hbk,NB_3.out,NB_4.out⟩,hnew,(by have h1:=Holds.lt RB1.out;have h2:=hbq1.size;omega)⟩
 rintro e a u2 hq
 rw [HQ2.out] at hq
 obtain ⟨rfl,g5,htm,hdf,hst⟩:=hq
 have ST2:=lH hst
 clear hst HQ2 ST1
 obtain ⟨tm,df⟩:=a
 dsimp only at htm hdf
 subst hdf
 obtain ⟨U,hU⟩:∃ U:Nat→Value,∀ i,tm.getD i undef=U i:=⟨_,fun _=>rfl⟩
 simp only [tG,hU] at htm
 clear hU
 subst htm
 go_step
 go_step
 (repeat (first | (apply wp_seq_k;intro _ _) | apply wp_block))
 obtain ⟨QQ3,HQ3⟩:∃ Q:Exit→Act→World→Prop,Hid (Q=fun e a W=>e = .normal∧∃ (g6:Nat),a.tmps=#[tG a 0,.pointer (some ⟨w.heap.size,0,none⟩),.pointer (some ⟨w.heap.size+1,0,none⟩),.pointer (some ⟨g3,0,none⟩),.pointer (some ⟨g4,0,none⟩),.pointer (some ⟨g5,0,none⟩),.pointer (some ⟨g6,0,none⟩),tG a 7,tG a 8,tG a 9,tG a 10,tG a 11,tG a 12,tG a 13,tG a 14,tG a 15,tG a 16,tG a 17,tG a 18,tG a 19,tG a 20,tG a 21,tG a 22,tG a 23,tG a 24,tG a 25,tG a 26,tG a 27,tG a 28,tG a 29,tG a 30,tG a 31,tG a 32,tG a 33,tG a 34,tG a 35,tG a 36,tG a 37,tG a 38,tG a 39,tG a 40,tG a 41,tG a 42,tG a 43,tG a 44,tG a 45,tG a 46,tG a 47,tG a 48,tG a 49,tG a 50,tG a 51,tG a 52,tG a 53,tG a 54,tG a 55,tG a 56,tG a 57,tG a 58,tG a 59,tG a 60,tG a 61,tG a 62,tG a 63,tG a 64,tG a 65,tG a 66,tG a 67,tG a 68,tG a 69,tG a 70,tG a 71,tG a 72,tG a 73,tG a 74]∧a.defers=[]∧((((Holds W w.heap.size 69 #[.int .u64 (x0:Int),.int .u64 (x1:Int),.int .u64 (x2:Int),.int .u64 (x3:Int),.int .u64 (y0:Int),.int .u64 (y1:Int),.int .u64 (y2:Int),.int .u64 (y3:Int),.int .u64 (z0:Int),.int .u64 (z1:Int),.int .u64 (z2:Int),.int .u64 (z3:Int)])∧(Holds W (w.heap.size+1) 69 #[.int .u64 0,.int .u64 0,.int .u64 0,.int .u64 0,.int .u64 0,.int .u64 0,.int .u64 0,.int .u64 0,.int .u64 0,.int .u64 0,.int .u64 0,.int .u64 0])∧(Below w.heap.size w W)∧(CMet W))∧(NumOr W g3 (some (en zz)))∧(NumOr W g4 (some (en yy)))∧(w.heap.size+1<g3)∧(w.heap.size+1<g4))∧(NumOr W g5 (some (en xyy)))∧(w.heap.size+1<g5))∧(NumOr W g6 (some (en a1)))∧(g3≠g6)∧(g4≠g6)∧(g5≠g6)∧(w.heap.size+1<g6)):=⟨_,lH rfl⟩
 refine Code.wp_mono (Q:=QQ3) ?_ ?_
 rotate_left 1
 ·have BX2:=lH (ST2.out.1.1.1)
  have RB2:=lH (ST2.out.1.1.2.1)
  have HB2:=lH (ST2.out.1.1.2.2.1)
  have HM2:=lH (ST2.out.1.1.2.2.2)
  have L3_2:=lH (ST2.out.1.2.1)
  have L4_2:=lH (ST2.out.1.2.2.1)
  have NB_3:=lH (ST2.out.1.2.2.2.1)
  have NB_4:=lH (ST2.out.1.2.2.2.2)
  have L5_2:=lH (ST2.out.2.1)
  have NB_5:=lH (ST2.out.2.2)
  have Hx:=lH (FV.out.2.1)
  have Eda:=lH (FV.out.2.2.2.2.2.2.2.1)
  have Edb:=lH (FV.out.2.2.2.2.2.2.2.2.1)
  have Ea1:=lH (FV.out.2.2.2.2.2.2.2.2.2.1)
  have Hzz:=lH (FV.out.2.2.2.2.2.2.2.2.2.2.2.2.2.2.2.2.2.2.2.2.2.2.2.2.2.2.2.2.1)
  have Hda:=lH (FV.out.2.2.2.2.2.2.2.2.2.2.2.2.2.2.2.2.2.2.2.2.2.2.2.2.2.2.2.2.2.2.2.1)
  have Hdb:=lH (FV.out.2.2.2.2.2.2.2.2.2.2.2.2.2.2.2.2.2.2.2.2.2.2.2.2.2.2.2.2.2.2.2.2.1)
  have Ha1:=lH (FV.out.2.2.2.2.2.2.2.2.2.2.2.2.2.2.2.2.2.2.2.2.2.2.2.2.2.2.2.2.2.2.2.2.2.1)
  clear ST2 FV
  have HF:Hid (∀ W,Below u2.heap.size u2 W→(((Holds W w.heap.size 69 #[.int .u64 (x0:Int),.int .u64 (x1:Int),.int .u64 (x2:Int),.int .u64 (x3:Int),.int .u64 (y0:Int),.int .u64 (y1:Int),.int .u64 (y2:Int),.int .u64 (y3:Int),.int .u64 (z0:Int),.int .u64 (z1:Int),.int .u64 (z2:Int),.int .u64 (z3:Int)])∧(Holds W (w.heap.size+1) 69 #[.int .u64 0,.int .u64 0,.int .u64 0,.int .u64 0,.int .u64 0,.int .u64 0,.int .u64 0,.int .u64 0,.int .u64 0,.int .u64 0,.int .u64 0,.int .u64 0])∧(Below w.heap.size w W)∧(CMet W))∧(NumOr W g3 (some (en zz)))∧(NumOr W g4 (some (en yy)))∧(w.heap.size+1<g3)∧(w.heap.size+1<g4))∧(NumOr W g5 (some (en xyy)))∧(w.heap.size+1<g5)):=lH fun W h=>⟨⟨⟨BX2.out.under h (Holds.lt BX2.out),RB2.out.under h (Holds.lt RB2.out),HB2.out.trans (h.mono HB2.out.size),HM2.out.under h⟩,NumOr.under L3_2.out h,NumOr.under L4_2.out h,NB_3.out,NB_4.out⟩,NumOr.under L5_2.out h,NB_5.out⟩
  refine wp_region_noPanic ?_
  refine wp_region_held_drew (S:=fun W=>Below u2.heap.size u2 W) (by kernel_rfl) ((Below.refl _ u2).drew) (fun hHeld=>?_)
  obtain ⟨V,hV⟩:∃ W,W=u2.drew:=⟨_,rfl⟩
  rw [←hV]
  have HSV:Hid (Below u2.heap.size u2 V):=lH (by rw [hV];exact (Below.refl _ u2).drew)
  replace hHeld:(fun W=>Below u2.heap.size u2 W) V:=HSV.out
  clear hV
  refine tk 0 ⟨some 25,.fieldAddr 69 (.tmp 1) 0,0,_,_,none⟩ ?_ rfl ?_ hHeld ?_
  rotate_left 1
  ·(intro W hW;(try dsimp only at hW);go_simp;try with_reducible rfl)
  try simp only [aP]
  refine tk 1 ⟨some 26,.load 67 (.tmp 25),67,_,_,none⟩ ?_ rfl ?_ hHeld ?_
  rotate_left 1
  ·(intro W hW;have hBB:=BX2.out.under hW (Holds.lt BX2.out);have k0:=hBB.cell 0;have k1:=hBB.cell 1;have k2:=hBB.cell 2;have k3:=hBB.cell 3;(try dsimp only at hW);go_simp;try with_reducible rfl)
  try simp only [aP]
  refine tk 2 ⟨some 27,.load 67 (.tmp 3),67,_,_,none⟩ ?_ rfl ?_ hHeld ?_
  rotate_left 1
  ·(intro W hW;have hBC:=(NumOr.under L3_2.out hW).cells Hzz.out;obtain ⟨q0,q1,q2,q3⟩:=hBC;(try dsimp only at hW);go_simp;try with_reducible rfl)
  try simp only [aP]
  refine tk 4 ⟨some 29,.fieldAddr 69 (.tmp 1) 0,0,_,_,none⟩ ?_ rfl ?_ hHeld ?_
  rotate_left 1
  ·(intro W hW;(try dsimp only at hW);go_simp;try with_reducible rfl)
  try simp only [aP]
  refine tk 5 ⟨some 30,.load 67 (.tmp 29),67,_,_,none⟩ ?_ rfl ?_ hHeld ?_
  rotate_left 1
  ·(intro W hW;have hBB:=BX2.out.under hW (Holds.lt BX2.out);have k0:=hBB.cell 0;have k1:=hBB.cell 1;have k2:=hBB.cell 2;have k3:=hBB.cell 3;(try dsimp only at hW);go_simp;try with_reducible rfl)
  try simp only [aP]
  refine tk 6 ⟨some 31,.load 67 (.tmp 3),67,_,_,none⟩ ?_ rfl ?_ hHeld ?_
  rotate_left 1
  ·(intro W hW;have hBC:=(NumOr.under L3_2.out hW).cells Hzz.out;obtain ⟨q0,q1,q2,q3⟩:=hBC;(try dsimp only at hW);go_simp;try with_reducible rfl)
  try simp only [aP]
  refine wpAnyH_ready (rs:=[3,9]) (by kernel_rfl) (by simp) ?_
  refine AllReadyH.cons (o:=⟨some 28,.call ⟨ .value (.func 55),#[.tmp 26,.tmp 27],#[67,67]⟩,67,_,_,none⟩) rfl (fun K hK=>?_) ?_
  go_simp
  refine (subE V (HM2.out.under HSV.out) j.x zz Hx.out Hzz.out (by rw [←Eda.out];exact Hda.out)).mono ?_
  rintro e V3 ⟨rfl,hbN⟩
  have HSV3:=lH (HSV.out.trans (hbN.mono HSV.out.size))
  clear hbN
  clear HSV
  go_simp
  refine hK.out _ _ (HSV3.out) (fun hHeld=>?_)
  clear hK K
  try simp only [aP]
  refine wpAnyH_ready (rs:=[7,9]) (by kernel_rfl) (by simp) ?_
  refine AllReadyH.cons (o:=⟨some 32,.call ⟨ .value (.func 57),#[.tmp 30,.tmp 31],#[67,67]⟩,67,_,_,none⟩) rfl (fun K hK=>?_) ?_
  go_simp
  refine (addE V3 (HM2.out.under HSV3.out) j.x zz Hx.out Hzz.out (by rw [←Edb.out];exact Hdb.out)).mono ?_
  rintro e V37 ⟨rfl,hbN⟩
  have HSV37:=lH (HSV3.out.trans (hbN.mono HSV3.out.size))
  clear hbN
  clear HSV3
  go_simp
  refine hK.out _ _ (HSV37.out) (fun hHeld=>?_)
  clear hK K
  try simp only [aP]
  refine wpAnyH_ready (rs:=[8,9]) (by kernel_rfl) (by simp) ?_
  refine AllReadyH.cons (o:=⟨some 33,.call ⟨ .value (.func 56),#[.tmp 28,.tmp 32],#[67,67]⟩,67,_,_,none⟩) rfl (fun K hK=>?_) ?_
  go_simp
  refine (mulE V37 (HM2.out.under HSV37.out) da db Hda.out Hdb.out (by rw [←Ea1.out];exact Ha1.out)).mono ?_
  rintro e V378 ⟨rfl,hbN⟩
  have HSV378:=lH (HSV37.out.trans (hbN.mono HSV37.out.size))
  clear hbN
  clear HSV37
  go_simp
  refine hK.out _ _ (HSV378.out) (fun hHeld=>?_)
  clear hK K
  try simp only [aP]
  refine rdy 9 ⟨some 6,.alloc 67,0,_,_,none⟩ rfl (fun K hK=>?_)
  obtain ⟨V3789,hN⟩:∃ W,W=V378.alloc (.cells #[.int .u64 0,.int .u64 0,.int .u64 0,.int .u64 0] 67):=⟨_,rfl⟩
  go_simp
  rw [←hN]
  obtain ⟨g6,hg⟩:∃ g,g=V378.heap.size:=⟨_,rfl⟩
  rw [←hg]
  have A6V3789:Hid (NumOr V3789 g6 none):=lH (by rw [hN,hg];exact NumOr.fresh _)
  have HSV3789:=lH (by rw [hN];exact HSV378.out.alloc HSV378.out.size _:Below u2.heap.size u2 V3789)
  have HG6:Hid (u2.heap.size≤g6):=lH (by rw [hg];exact HSV378.out.size)
  clear hN hg
  have HU0:=lH (show g3≠g6 from (by have h1:=NumOr.lt L3_2.out;have h2:=HG6.out;omega))
  have HU1:=lH (show g4≠g6 from (by have h1:=NumOr.lt L4_2.out;have h2:=HG6.out;omega))
  have HU2:=lH (show g5≠g6 from (by have h1:=NumOr.lt L5_2.out;have h2:=HG6.out;omega))
  have HU3:=lH (show w.heap.size+1<g6 from (by have h1:=Holds.lt RB2.out;have h2:=HG6.out;omega))
  clear HSV378
  refine hK.out _ _ (HSV3789.out) (fun hHeld=>?_)
  clear hK K
  try simp only [aP]
  refine rdy 10 ⟨none,.store 67 (.tmp 6) (.tmp 33),0,_,_,none⟩ rfl (fun K hK=>?_)
  obtain ⟨zv0,zv1,zv2,zv3,⟨z0,o0⟩,⟨z1,o1⟩,⟨z2,o2⟩,⟨z3,o3⟩⟩:=NumOr.facts A6V3789.out
  obtain ⟨V3789a,hN⟩:∃ W,W=((((V3789.setCell ⟨g6,0,none⟩ (.int .u64 (a10:Int))).setCell ⟨g6,1,none⟩ (.int .u64 (a11:Int))).setCell ⟨g6,2,none⟩ (.int .u64 (a12:Int))).setCell ⟨g6,3,none⟩ (.int .u64 (a13:Int))):=⟨_,rfl⟩
  go_simp
  rw [←hN]
  have A6V3789a:Hid (NumOr V3789a g6 (some (en a1))):=lH (by rw [hN];exact NumOr.set A6V3789.out Ha1.out)
  have HSV3789a:=lH (by rw [hN];exact below4 HSV3789.out HG6.out _ _ _ _:Below u2.heap.size u2 V3789a)
  clear hN z0 o0 z1 o1 z2 o2 z3 o3 zv0 zv1 zv2 zv3
  clear HSV3789 A6V3789
  refine hK.out _ _ (HSV3789a.out) (fun hHeld=>?_)
  clear hK K
  try simp only [aP]
  refine wpAnyH_done (by kernel_rfl) ?_ _
  refine NoPanic.normal ?_
  rw [HQ3.out]
  exact ⟨rfl,g6,rfl,rfl,HF.out _ HSV3789a.out,A6V3789a.out,HU0.out,HU1.out,HU2.out,HU3.out⟩
  refine AllReadyH.cons (o:=⟨some 6,.alloc 67,0,_,_,none⟩) rfl (fun K hK=>?_) AllReadyH.nil
  obtain ⟨V379,hN⟩:∃ W,W=V37.alloc (.cells #[.int .u64 0,.int .u64 0,.int .u64 0,.int .u64 0] 67):=⟨_,rfl⟩
  go_simp
  rw [←hN]
  obtain ⟨g6,hg⟩:∃ g,g=V37.heap.size:=⟨_,rfl⟩
  rw [←hg]
  have A6V379:Hid (NumOr V379 g6 none):=lH (by rw [hN,hg];exact NumOr.fresh _)
  have HSV379:=lH (by rw [hN];exact HSV37.out.alloc HSV37.out.size _:Below u2.heap.size u2 V379)
  have HG6:Hid (u2.heap.size≤g6):=lH (by rw [hg];exact HSV37.out.size)
  clear hN hg
  have HU0:=lH (show g3≠g6 from (by have h1:=NumOr.lt L3_2.out;have h2:=HG6.out;omega))
  have HU1:=lH (show g4≠g6 from (by have h1:=NumOr.lt L4_2.out;have h2:=HG6.out;omega))
  have HU2:=lH (show g5≠g6 from (by have h1:=NumOr.lt L5_2.out;have h2:=HG6.out;omega))
  have HU3:=lH (show w.heap.size+1<g6 from (by have h1:=Holds.lt RB2.out;have h2:=HG6.out;omega))
  clear HSV37
  refine hK.out _ _ (HSV379.out) (fun hHeld=>?_)
  clear hK K
  try simp only [aP]
  refine rdy 8 ⟨some 33,.call ⟨ .value (.func 56),#[.tmp 28,.tmp 32],#[67,67]⟩,67,_,_,none⟩ rfl (fun K hK=>?_)
  go_simp
  refine (mulE V379 (HM2.out.under HSV379.out) da db Hda.out Hdb.out (by rw [←Ea1.out];exact Ha1.out)).mono ?_
  rintro e V3798 ⟨rfl,hbN⟩
  have HSV3798:=lH (HSV379.out.trans (hbN.mono HSV379.out.size))
  have A6V3798:Hid (NumOr V3798 g6 none):=lH (NumOr.under A6V379.out hbN)
  clear hbN
  clear HSV379 A6V379
  go_simp
  refine hK.out _ _ (HSV3798.out) (fun hHeld=>?_)
  clear hK K
  try simp only [aP]
  refine rdy 10 ⟨none,.store 67 (.tmp 6) (.tmp 33),0,_,_,none⟩ rfl (fun K hK=>?_)
  obtain ⟨zv0,zv1,zv2,zv3,⟨z0,o0⟩,⟨z1,o1⟩,⟨z2,o2⟩,⟨z3,o3⟩⟩:=NumOr.facts A6V3798.out
  obtain ⟨V3798a,hN⟩:∃ W,W=((((V3798.setCell ⟨g6,0,none⟩ (.int .u64 (a10:Int))).setCell ⟨g6,1,none⟩ (.int .u64 (a11:Int))).setCell ⟨g6,2,none⟩ (.int .u64 (a12:Int))).setCell ⟨g6,3,none⟩ (.int .u64 (a13:Int))):=⟨_,rfl⟩
  go_simp
  rw [←hN]
  have A6V3798a:Hid (NumOr V3798a g6 (some (en a1))):=lH (by rw [hN];exact NumOr.set A6V3798.out Ha1.out)
  have HSV3798a:=lH (by rw [hN];exact below4 HSV3798.out HG6.out _ _ _ _:Below u2.heap.size u2 V3798a)
  clear hN z0 o0 z1 o1 z2 o2 z3 o3 zv0 zv1 zv2 zv3
  clear HSV3798 A6V3798
  refine hK.out _ _ (HSV3798a.out) (fun hHeld=>?_)
  clear hK K
  try simp only [aP]
  refine wpAnyH_done (by kernel_rfl) ?_ _
  refine NoPanic.normal ?_
  rw [HQ3.out]
  exact ⟨rfl,g6,rfl,rfl,HF.out _ HSV3798a.out,A6V3798a.out,HU0.out,HU1.out,HU2.out,HU3.out⟩
  refine AllReadyH.cons (o:=⟨some 6,.alloc 67,0,_,_,none⟩) rfl (fun K hK=>?_) AllReadyH.nil
  obtain ⟨V39,hN⟩:∃ W,W=V3.alloc (.cells #[.int .u64 0,.int .u64 0,.int .u64 0,.int .u64 0] 67):=⟨_,rfl⟩
  go_simp
  rw [←hN]
  obtain ⟨g6,hg⟩:∃ g,g=V3.heap.size:=⟨_,rfl⟩
  rw [←hg]
  have A6V39:Hid (NumOr V39 g6 none):=lH (by rw [hN,hg];exact NumOr.fresh _)
  have HSV39:=lH (by rw [hN];exact HSV3.out.alloc HSV3.out.size _:Below u2.heap.size u2 V39)
  have HG6:Hid (u2.heap.size≤g6):=lH (by rw [hg];exact HSV3.out.size)
  clear hN hg
  have HU0:=lH (show g3≠g6 from (by have h1:=NumOr.lt L3_2.out;have h2:=HG6.out;omega))
  have HU1:=lH (show g4≠g6 from (by have h1:=NumOr.lt L4_2.out;have h2:=HG6.out;omega))
  have HU2:=lH (show g5≠g6 from (by have h1:=NumOr.lt L5_2.out;have h2:=HG6.out;omega))
  have HU3:=lH (show w.heap.size+1<g6 from (by have h1:=Holds.lt RB2.out;have h2:=HG6.out;omega))
  clear HSV3
  refine hK.out _ _ (HSV39.out) (fun hHeld=>?_)
  clear hK K
  try simp only [aP]
  refine rdy 7 ⟨some 32,.call ⟨ .value (.func 57),#[.tmp 30,.tmp 31],#[67,67]⟩,67,_,_,none⟩ rfl (fun K hK=>?_)
  go_simp
  refine (addE V39 (HM2.out.under HSV39.out) j.x zz Hx.out Hzz.out (by rw [←Edb.out];exact Hdb.out)).mono ?_
  rintro e V397 ⟨rfl,hbN⟩
  have HSV397:=lH (HSV39.out.trans (hbN.mono HSV39.out.size))
  have A6V397:Hid (NumOr V397 g6 none):=lH (NumOr.under A6V39.out hbN)
  clear hbN
  clear HSV39 A6V39
  go_simp
  refine hK.out _ _ (HSV397.out) (fun hHeld=>?_)
  clear hK K
  try simp only [aP]
  refine rdy 8 ⟨some 33,.call ⟨ .value (.func 56),#[.tmp 28,.tmp 32],#[67,67]⟩,67,_,_,none⟩ rfl (fun K hK=>?_)
  go_simp
  refine (mulE V397 (HM2.out.under HSV397.out) da db Hda.out Hdb.out (by rw [←Ea1.out];exact Ha1.out)).mono ?_
  rintro e V3978 ⟨rfl,hbN⟩
  have HSV3978:=lH (HSV397.out.trans (hbN.mono HSV397.out.size))
  have A6V3978:Hid (NumOr V3978 g6 none):=lH (NumOr.under A6V397.out hbN)
  clear hbN
  clear HSV397 A6V397
  go_simp
  refine hK.out _ _ (HSV3978.out) (fun hHeld=>?_)
  clear hK K
  try simp only [aP]
  refine rdy 10 ⟨none,.store 67 (.tmp 6) (.tmp 33),0,_,_,none⟩ rfl (fun K hK=>?_)
  obtain ⟨zv0,zv1,zv2,zv3,⟨z0,o0⟩,⟨z1,o1⟩,⟨z2,o2⟩,⟨z3,o3⟩⟩:=NumOr.facts A6V3978.out
  obtain ⟨V3978a,hN⟩:∃ W,W=((((V3978.setCell ⟨g6,0,none⟩ (.int .u64 (a10:Int))).setCell ⟨g6,1,none⟩ (.int .u64 (a11:Int))).setCell ⟨g6,2,none⟩ (.int .u64 (a12:Int))).setCell ⟨g6,3,none⟩ (.int .u64 (a13:Int))):=⟨_,rfl⟩
  go_simp
  rw [←hN]
  have A6V3978a:Hid (NumOr V3978a g6 (some (en a1))):=lH (by rw [hN];exact NumOr.set A6V3978.out Ha1.out)
  have HSV3978a:=lH (by rw [hN];exact below4 HSV3978.out HG6.out _ _ _ _:Below u2.heap.size u2 V3978a)
  clear hN z0 o0 z1 o1 z2 o2 z3 o3 zv0 zv1 zv2 zv3
  clear HSV3978 A6V3978
  refine hK.out _ _ (HSV3978a.out) (fun hHeld=>?_)
  clear hK K
  try simp only [aP]
  refine wpAnyH_done (by kernel_rfl) ?_ _
  refine NoPanic.normal ?_
  rw [HQ3.out]
  exact ⟨rfl,g6,rfl,rfl,HF.out _ HSV3978a.out,A6V3978a.out,HU0.out,HU1.out,HU2.out,HU3.out⟩
  refine AllReadyH.cons (o:=⟨some 6,.alloc 67,0,_,_,none⟩) rfl (fun K hK=>?_) AllReadyH.nil
  obtain ⟨V9,hN⟩:∃ W,W=V.alloc (.cells #[.int .u64 0,.int .u64 0,.int .u64 0,.int .u64 0] 67):=⟨_,rfl⟩
  go_simp
  rw [←hN]
  obtain ⟨g6,hg⟩:∃ g,g=V.heap.size:=⟨_,rfl⟩
  rw [←hg]
  have A6V9:Hid (NumOr V9 g6 none):=lH (by rw [hN,hg];exact NumOr.fresh _)
  have HSV9:=lH (by rw [hN];exact HSV.out.alloc HSV.out.size _:Below u2.heap.size u2 V9)
  have HG6:Hid (u2.heap.size≤g6):=lH (by rw [hg];exact HSV.out.size)
  clear hN hg
  have HU0:=lH (show g3≠g6 from (by have h1:=NumOr.lt L3_2.out;have h2:=HG6.out;omega))
  have HU1:=lH (show g4≠g6 from (by have h1:=NumOr.lt L4_2.out;have h2:=HG6.out;omega))
  have HU2:=lH (show g5≠g6 from (by have h1:=NumOr.lt L5_2.out;have h2:=HG6.out;omega))
  have HU3:=lH (show w.heap.size+1<g6 from (by have h1:=Holds.lt RB2.out;have h2:=HG6.out;omega))
  clear HSV
  refine hK.out _ _ (HSV9.out) (fun hHeld=>?_)
  clear hK K
  try simp only [aP]
  refine rdy 3 ⟨some 28,.call ⟨ .value (.func 55),#[.tmp 26,.tmp 27],#[67,67]⟩,67,_,_,none⟩ rfl (fun K hK=>?_)
  go_simp
  refine (subE V9 (HM2.out.under HSV9.out) j.x zz Hx.out Hzz.out (by rw [←Eda.out];exact Hda.out)).mono ?_
  rintro e V93 ⟨rfl,hbN⟩
  have HSV93:=lH (HSV9.out.trans (hbN.mono HSV9.out.size))
  have A6V93:Hid (NumOr V93 g6 none):=lH (NumOr.under A6V9.out hbN)
  clear hbN
  clear HSV9 A6V9
  go_simp
  refine hK.out _ _ (HSV93.out) (fun hHeld=>?_)
  clear hK K
  try simp only [aP]
  refine rdy 7 ⟨some 32,.call ⟨ .value (.func 57),#[.tmp 30,.tmp 31],#[67,67]⟩,67,_,_,none⟩ rfl (fun K hK=>?_)
  go_simp
  refine (addE V93 (HM2.out.under HSV93.out) j.x zz Hx.out Hzz.out (by rw [←Edb.out];exact Hdb.out)).mono ?_
  rintro e V937 ⟨rfl,hbN⟩
  have HSV937:=lH (HSV93.out.trans (hbN.mono HSV93.out.size))
  have A6V937:Hid (NumOr V937 g6 none):=lH (NumOr.under A6V93.out hbN)
  clear hbN
  clear HSV93 A6V93
  go_simp
  refine hK.out _ _ (HSV937.out) (fun hHeld=>?_)
  clear hK K
  try simp only [aP]
  refine rdy 8 ⟨some 33,.call ⟨ .value (.func 56),#[.tmp 28,.tmp 32],#[67,67]⟩,67,_,_,none⟩ rfl (fun K hK=>?_)
  go_simp
  refine (mulE V937 (HM2.out.under HSV937.out) da db Hda.out Hdb.out (by rw [←Ea1.out];exact Ha1.out)).mono ?_
  rintro e V9378 ⟨rfl,hbN⟩
  have HSV9378:=lH (HSV937.out.trans (hbN.mono HSV937.out.size))
  have A6V9378:Hid (NumOr V9378 g6 none):=lH (NumOr.under A6V937.out hbN)
  clear hbN
  clear HSV937 A6V937
  go_simp
  refine hK.out _ _ (HSV9378.out) (fun hHeld=>?_)
  clear hK K
  try simp only [aP]
  refine rdy 10 ⟨none,.store 67 (.tmp 6) (.tmp 33),0,_,_,none⟩ rfl (fun K hK=>?_)
  obtain ⟨zv0,zv1,zv2,zv3,⟨z0,o0⟩,⟨z1,o1⟩,⟨z2,o2⟩,⟨z3,o3⟩⟩:=NumOr.facts A6V9378.out
  obtain ⟨V9378a,hN⟩:∃ W,W=((((V9378.setCell ⟨g6,0,none⟩ (.int .u64 (a10:Int))).setCell ⟨g6,1,none⟩ (.int .u64 (a11:Int))).setCell ⟨g6,2,none⟩ (.int .u64 (a12:Int))).setCell ⟨g6,3,none⟩ (.int .u64 (a13:Int))):=⟨_,rfl⟩
  go_simp
  rw [←hN]
  have A6V9378a:Hid (NumOr V9378a g6 (some (en a1))):=lH (by rw [hN];exact NumOr.set A6V9378.out Ha1.out)
  have HSV9378a:=lH (by rw [hN];exact below4 HSV9378.out HG6.out _ _ _ _:Below u2.heap.size u2 V9378a)
  clear hN z0 o0 z1 o1 z2 o2 z3 o3 zv0 zv1 zv2 zv3
  clear HSV9378 A6V9378
  refine hK.out _ _ (HSV9378a.out) (fun hHeld=>?_)
  clear hK K
  try simp only [aP]
  refine wpAnyH_done (by kernel_rfl) ?_ _
  refine NoPanic.normal ?_
  rw [HQ3.out]
  exact ⟨rfl,g6,rfl,rfl,HF.out _ HSV9378a.out,A6V9378a.out,HU0.out,HU1.out,HU2.out,HU3.out⟩
 rintro e a u3 hq
 rw [HQ3.out] at hq
 obtain ⟨rfl,g6,htm,hdf,hst⟩:=hq
 have ST3:=lH hst
 clear hst HQ3 ST2
 obtain ⟨tm,df⟩:=a
 dsimp only at htm hdf
 subst hdf
 obtain ⟨U,hU⟩:∃ U:Nat→Value,∀ i,tm.getD i undef=U i:=⟨_,fun _=>rfl⟩
 simp only [tG,hU] at htm
 clear hU
 subst htm
 go_step
 go_step
 (repeat (first | (apply wp_seq_k;intro _ _) | apply wp_block))
 obtain ⟨QQ4,HQ4⟩:∃ Q:Exit→Act→World→Prop,Hid (Q=fun e a W=>e = .normal∧a.tmps=#[tG a 0,.pointer (some ⟨w.heap.size,0,none⟩),.pointer (some ⟨w.heap.size+1,0,none⟩),.pointer (some ⟨g3,0,none⟩),.pointer (some ⟨g4,0,none⟩),.pointer (some ⟨g5,0,none⟩),.pointer (some ⟨g6,0,none⟩),tG a 7,tG a 8,tG a 9,tG a 10,tG a 11,tG a 12,tG a 13,tG a 14,tG a 15,tG a 16,tG a 17,tG a 18,tG a 19,tG a 20,tG a 21,tG a 22,tG a 23,tG a 24,tG a 25,tG a 26,tG a 27,tG a 28,tG a 29,tG a 30,tG a 31,tG a 32,tG a 33,tG a 34,tG a 35,tG a 36,tG a 37,tG a 38,tG a 39,tG a 40,tG a 41,tG a 42,tG a 43,tG a 44,tG a 45,tG a 46,tG a 47,tG a 48,tG a 49,tG a 50,tG a 51,tG a 52,tG a 53,tG a 54,tG a 55,tG a 56,tG a 57,tG a 58,tG a 59,tG a 60,tG a 61,tG a 62,tG a 63,tG a 64,tG a 65,tG a 66,tG a 67,tG a 68,tG a 69,tG a 70,tG a 71,tG a 72,tG a 73,tG a 74]∧a.defers=[]∧(Holds W w.heap.size 69 #[.int .u64 (x0:Int),.int .u64 (x1:Int),.int .u64 (x2:Int),.int .u64 (x3:Int),.int .u64 (y0:Int),.int .u64 (y1:Int),.int .u64 (y2:Int),.int .u64 (y3:Int),.int .u64 (z0:Int),.int .u64 (z1:Int),.int .u64 (z2:Int),.int .u64 (z3:Int)])∧(Holds W (w.heap.size+1) 69 #[.int .u64 0,.int .u64 0,.int .u64 0,.int .u64 0,.int .u64 0,.int .u64 0,.int .u64 0,.int .u64 0,.int .u64 0,.int .u64 0,.int .u64 0,.int .u64 0])∧(Below w.heap.size w W)∧(CMet W)∧(NumOr W g3 (some (en zz)))∧(NumOr W g4 (some (en yy)))∧(w.heap.size+1<g3)∧(w.heap.size+1<g4)∧(NumOr W g5 (some (en xyy)))∧(w.heap.size+1<g5)∧(NumOr W g6 (some (en a3)))∧(g3≠g6)∧(g4≠g6)∧(g5≠g6)∧(w.heap.size+1<g6)):=⟨_,lH rfl⟩
 refine Code.wp_mono (Q:=QQ4) ?_ ?_
 rotate_left 1
 ·have BX3:=lH (ST3.out.1.1.1.1)
  have RB3:=lH (ST3.out.1.1.1.2.1)
  have HB3:=lH (ST3.out.1.1.1.2.2.1)
  have HM3:=lH (ST3.out.1.1.1.2.2.2)
  have L3_3:=lH (ST3.out.1.1.2.1)
  have L4_3:=lH (ST3.out.1.1.2.2.1)
  have NB_3:=lH (ST3.out.1.1.2.2.2.1)
  have NB_4:=lH (ST3.out.1.1.2.2.2.2)
  have L5_3:=lH (ST3.out.1.2.1)
  have NB_5:=lH (ST3.out.1.2.2)
  have L6_3:=lH (ST3.out.2.1)
  have N3_6:=lH (ST3.out.2.2.1)
  have N4_6:=lH (ST3.out.2.2.2.1)
  have N5_6:=lH (ST3.out.2.2.2.2.1)
  have NB_6:=lH (ST3.out.2.2.2.2.2)
  have HMW:=lH (FV.out.1)
  have Ea2:=lH (FV.out.2.2.2.2.2.2.2.2.2.2.1)
  have Ea3:=lH (FV.out.2.2.2.2.2.2.2.2.2.2.2.1)
  have Ha1:=lH (FV.out.2.2.2.2.2.2.2.2.2.2.2.2.2.2.2.2.2.2.2.2.2.2.2.2.2.2.2.2.2.2.2.2.2.1)
  have Ha2:=lH (FV.out.2.2.2.2.2.2.2.2.2.2.2.2.2.2.2.2.2.2.2.2.2.2.2.2.2.2.2.2.2.2.2.2.2.2.1)
  have Ha3:=lH (FV.out.2.2.2.2.2.2.2.2.2.2.2.2.2.2.2.2.2.2.2.2.2.2.2.2.2.2.2.2.2.2.2.2.2.2.2.1)
  clear ST3 FV
  refine wp_region_noPanic ?_
  refine wp_region_held_drew (S:=fun _=>True) (by kernel_rfl) trivial (fun hHeld=>?_)
  obtain ⟨V,hV⟩:∃ W,W=u3.drew:=⟨_,rfl⟩
  rw [←hV]
  have HSV:Hid (Below u3.heap.size u3 V):=lH (by rw [hV];exact (Below.refl _ u3).drew)
  obtain ⟨q0,q1,q2,q3⟩:=(NumOr.under L6_3.out HSV.out).cells Ha1.out
  clear hV
  refine wpAnyH_ready (rs:=[0,1,2]) (by kernel_rfl) (by simp) ?_
  refine AllReadyH.cons (o:=⟨some 34,.load 67 (.tmp 6),67,_,_,none⟩) rfl (fun K hK=>?_) ?_
  ·go_simp
   refine hK.out _ _ trivial (fun hHeld=>?_)
   clear hK K
   try simp only [aP]
   refine wpAnyH_ready (rs:=[1,2]) (by kernel_rfl) (by simp) ?_
   refine AllReadyH.cons (o:=⟨some 35,.load 67 (.tmp 6),67,_,_,none⟩) rfl (fun K hK=>?_) ?_
   ·go_simp
    refine hK.out _ _ trivial (fun hHeld=>?_)
    clear hK K
    try simp only [aP]
    refine rdy 2 ⟨some 36,.load 67 (.tmp 6),67,_,_,none⟩ rfl (fun K hK=>?_)
    go_simp
    refine hK.out _ _ trivial (fun hHeld=>?_)
    clear hK K
    try simp only [aP]
    refine rdy 3 ⟨some 37,.call ⟨ .value (.func 57),#[.tmp 35,.tmp 36],#[67,67]⟩,67,_,_,none⟩ rfl (fun K hK=>?_)
    go_simp
    refine (addE V (HM3.out.under HSV.out) a1 a1 Ha1.out Ha1.out (by rw [←Ea2.out];exact Ha2.out)).mono ?_
    rintro e V1 ⟨rfl,hbN⟩
    have HSV1:=lH (HSV.out.trans (hbN.mono HSV.out.size))
    obtain ⟨r0,r1,r2,r3⟩:=(NumOr.under L6_3.out HSV1.out).cells Ha1.out
    clear hbN
    go_simp
    refine hK.out _ _ trivial (fun hHeld=>?_)
    clear hK K
    try simp only [aP]
    refine rdy 4 ⟨some 38,.call ⟨ .value (.func 57),#[.tmp 34,.tmp 37],#[67,67]⟩,67,_,_,none⟩ rfl (fun K hK=>?_)
    go_simp
    refine (addE V1 (HM3.out.under HSV1.out) a1 a2 Ha1.out Ha2.out (by rw [←Ea3.out];exact Ha3.out)).mono ?_
    rintro e V2 ⟨rfl,hbN⟩
    have HSV2:=lH (HSV1.out.trans (hbN.mono HSV1.out.size))
    clear hbN
    go_simp
    refine hK.out _ _ trivial (fun hHeld=>?_)
    clear hK K
    try simp only [aP]
    refine rdy 5 ⟨none,.store 67 (.tmp 6) (.tmp 38),0,_,_,none⟩ rfl (fun K hK=>?_)
    obtain ⟨zv0,zv1,zv2,zv3,⟨z0,o0⟩,⟨z1,o1⟩,⟨z2,o2⟩,⟨z3,o3⟩⟩:=NumOr.facts (NumOr.under L6_3.out HSV2.out)
    obtain ⟨V3,hN⟩:∃ W,W=((((V2.setCell ⟨g6,0,none⟩ (.int .u64 (a30:Int))).setCell ⟨g6,1,none⟩ (.int .u64 (a31:Int))).setCell ⟨g6,2,none⟩ (.int .u64 (a32:Int))).setCell ⟨g6,3,none⟩ (.int .u64 (a33:Int))):=⟨_,rfl⟩
    go_simp
    rw [←hN]
    refine hK.out _ _ trivial (fun hHeld=>?_)
    clear hK K
    try simp only [aP]
    refine wpAnyH_done (by kernel_rfl) ?_ _
    refine NoPanic.normal ?_
    rw [HQ4.out]
    exact ⟨rfl,rfl,rfl,(by rw [hN];exact holds_aside4 (BX3.out.under HSV2.out (Holds.lt BX3.out)) (k:=g6) (by have:=NB_6.out;omega) _ _ _ _),(by rw [hN];exact holds_aside4 (RB3.out.under HSV2.out (Holds.lt RB3.out)) (k:=g6) (by have:=NB_6.out;omega) _ _ _ _),(by rw [hN];exact below4 (HB3.out.trans (HSV2.out.mono HB3.out.size)) (by have:=NB_6.out;omega) _ _ _ _),(by rw [hN];exact HMW.out.under (below4 (HB3.out.trans (HSV2.out.mono HB3.out.size)) (by have:=NB_6.out;omega) _ _ _ _)),(by rw [hN];exact NumOr.aside4 (NumOr.under L3_3.out HSV2.out) N3_6.out _ _ _ _),(by rw [hN];exact NumOr.aside4 (NumOr.under L4_3.out HSV2.out) N4_6.out _ _ _ _),NB_3.out,NB_4.out,(by rw [hN];exact NumOr.aside4 (NumOr.under L5_3.out HSV2.out) N5_6.out _ _ _ _),NB_5.out,(by rw [hN];exact NumOr.set (NumOr.under L6_3.out HSV2.out) Ha3.out),N3_6.out,N4_6.out,N5_6.out,NB_6.out⟩
   refine AllReadyH.cons (o:=⟨some 36,.load 67 (.tmp 6),67,_,_,none⟩) rfl (fun K hK=>?_) AllReadyH.nil
   go_simp
   refine hK.out _ _ trivial (fun hHeld=>?_)
   clear hK K
   try simp only [aP]
   refine rdy 1 ⟨some 35,.load 67 (.tmp 6),67,_,_,none⟩ rfl (fun K hK=>?_)
   go_simp
   refine hK.out _ _ trivial (fun hHeld=>?_)
   clear hK K
   try simp only [aP]
   refine rdy 3 ⟨some 37,.call ⟨ .value (.func 57),#[.tmp 35,.tmp 36],#[67,67]⟩,67,_,_,none⟩ rfl (fun K hK=>?_)
   go_simp
   refine (addE V (HM3.out.under HSV.out) a1 a1 Ha1.out Ha1.out (by rw [←Ea2.out];exact Ha2.out)).mono ?_
   rintro e V1 ⟨rfl,hbN⟩
   have HSV1:=lH (HSV.out.trans (hbN.mono HSV.out.size))
   obtain ⟨r0,r1,r2,r3⟩:=(NumOr.under L6_3.out HSV1.out).cells Ha1.out
   clear hbN
   go_simp
   refine hK.out _ _ trivial (fun hHeld=>?_)
   clear hK K
   try simp only [aP]
   refine rdy 4 ⟨some 38,.call ⟨ .value (.func 57),#[.tmp 34,.tmp 37],#[67,67]⟩,67,_,_,none⟩ rfl (fun K hK=>?_)
   go_simp
   refine (addE V1 (HM3.out.under HSV1.out) a1 a2 Ha1.out Ha2.out (by rw [←Ea3.out];exact Ha3.out)).mono ?_
   rintro e V2 ⟨rfl,hbN⟩
   have HSV2:=lH (HSV1.out.trans (hbN.mono HSV1.out.size))
   clear hbN
   go_simp
   refine hK.out _ _ trivial (fun hHeld=>?_)
   clear hK K
   try simp only [aP]
   refine rdy 5 ⟨none,.store 67 (.tmp 6) (.tmp 38),0,_,_,none⟩ rfl (fun K hK=>?_)
   obtain ⟨zv0,zv1,zv2,zv3,⟨z0,o0⟩,⟨z1,o1⟩,⟨z2,o2⟩,⟨z3,o3⟩⟩:=NumOr.facts (NumOr.under L6_3.out HSV2.out)
   obtain ⟨V3,hN⟩:∃ W,W=((((V2.setCell ⟨g6,0,none⟩ (.int .u64 (a30:Int))).setCell ⟨g6,1,none⟩ (.int .u64 (a31:Int))).setCell ⟨g6,2,none⟩ (.int .u64 (a32:Int))).setCell ⟨g6,3,none⟩ (.int .u64 (a33:Int))):=⟨_,rfl⟩
   go_simp
   rw [←hN]
   refine hK.out _ _ trivial (fun hHeld=>?_)
   clear hK K
   try simp only [aP]
   refine wpAnyH_done (by kernel_rfl) ?_ _
   refine NoPanic.normal ?_
   rw [HQ4.out]
   exact ⟨rfl,rfl,rfl,(by rw [hN];exact holds_aside4 (BX3.out.under HSV2.out (Holds.lt BX3.out)) (k:=g6) (by have:=NB_6.out;omega) _ _ _ _),(by rw [hN];exact holds_aside4 (RB3.out.under HSV2.out (Holds.lt RB3.out)) (k:=g6) (by have:=NB_6.out;omega) _ _ _ _),(by rw [hN];exact below4 (HB3.out.trans (HSV2.out.mono HB3.out.size)) (by have:=NB_6.out;omega) _ _ _ _),(by rw [hN];exact HMW.out.under (below4 (HB3.out.trans (HSV2.out.mono HB3.out.size)) (by have:=NB_6.out;omega) _ _ _ _)),(by rw [hN];exact NumOr.aside4 (NumOr.under L3_3.out HSV2.out) N3_6.out _ _ _ _),(by rw [hN];exact NumOr.aside4 (NumOr.under L4_3.out HSV2.out) N4_6.out _ _ _ _),NB_3.out,NB_4.out,(by rw [hN];exact NumOr.aside4 (NumOr.under L5_3.out HSV2.out) N5_6.out _ _ _ _),NB_5.out,(by rw [hN];exact NumOr.set (NumOr.under L6_3.out HSV2.out) Ha3.out),N3_6.out,N4_6.out,N5_6.out,NB_6.out⟩
  refine AllReadyH.cons (o:=⟨some 35,.load 67 (.tmp 6),67,_,_,none⟩) rfl (fun K hK=>?_) ?_
  ·go_simp
   refine hK.out _ _ trivial (fun hHeld=>?_)
   clear hK K
   try simp only [aP]
   refine wpAnyH_ready (rs:=[0,2]) (by kernel_rfl) (by simp) ?_
   refine AllReadyH.cons (o:=⟨some 34,.load 67 (.tmp 6),67,_,_,none⟩) rfl (fun K hK=>?_) ?_
   ·go_simp
    refine hK.out _ _ trivial (fun hHeld=>?_)
    clear hK K
    try simp only [aP]
    refine rdy 2 ⟨some 36,.load 67 (.tmp 6),67,_,_,none⟩ rfl (fun K hK=>?_)
    go_simp
    refine hK.out _ _ trivial (fun hHeld=>?_)
    clear hK K
    try simp only [aP]
    refine rdy 3 ⟨some 37,.call ⟨ .value (.func 57),#[.tmp 35,.tmp 36],#[67,67]⟩,67,_,_,none⟩ rfl (fun K hK=>?_)
    go_simp
    refine (addE V (HM3.out.under HSV.out) a1 a1 Ha1.out Ha1.out (by rw [←Ea2.out];exact Ha2.out)).mono ?_
    rintro e V1 ⟨rfl,hbN⟩
    have HSV1:=lH (HSV.out.trans (hbN.mono HSV.out.size))
    obtain ⟨r0,r1,r2,r3⟩:=(NumOr.under L6_3.out HSV1.out).cells Ha1.out
    clear hbN
    go_simp
    refine hK.out _ _ trivial (fun hHeld=>?_)
    clear hK K
    try simp only [aP]
    refine rdy 4 ⟨some 38,.call ⟨ .value (.func 57),#[.tmp 34,.tmp 37],#[67,67]⟩,67,_,_,none⟩ rfl (fun K hK=>?_)
    go_simp
    refine (addE V1 (HM3.out.under HSV1.out) a1 a2 Ha1.out Ha2.out (by rw [←Ea3.out];exact Ha3.out)).mono ?_
    rintro e V2 ⟨rfl,hbN⟩
    have HSV2:=lH (HSV1.out.trans (hbN.mono HSV1.out.size))
    clear hbN
    go_simp
    refine hK.out _ _ trivial (fun hHeld=>?_)
    clear hK K
    try simp only [aP]
    refine rdy 5 ⟨none,.store 67 (.tmp 6) (.tmp 38),0,_,_,none⟩ rfl (fun K hK=>?_)
    obtain ⟨zv0,zv1,zv2,zv3,⟨z0,o0⟩,⟨z1,o1⟩,⟨z2,o2⟩,⟨z3,o3⟩⟩:=NumOr.facts (NumOr.under L6_3.out HSV2.out)
    obtain ⟨V3,hN⟩:∃ W,W=((((V2.setCell ⟨g6,0,none⟩ (.int .u64 (a30:Int))).setCell ⟨g6,1,none⟩ (.int .u64 (a31:Int))).setCell ⟨g6,2,none⟩ (.int .u64 (a32:Int))).setCell ⟨g6,3,none⟩ (.int .u64 (a33:Int))):=⟨_,rfl⟩
    go_simp
    rw [←hN]
    refine hK.out _ _ trivial (fun hHeld=>?_)
    clear hK K
    try simp only [aP]
    refine wpAnyH_done (by kernel_rfl) ?_ _
    refine NoPanic.normal ?_
    rw [HQ4.out]
    exact ⟨rfl,rfl,rfl,(by rw [hN];exact holds_aside4 (BX3.out.under HSV2.out (Holds.lt BX3.out)) (k:=g6) (by have:=NB_6.out;omega) _ _ _ _),(by rw [hN];exact holds_aside4 (RB3.out.under HSV2.out (Holds.lt RB3.out)) (k:=g6) (by have:=NB_6.out;omega) _ _ _ _),(by rw [hN];exact below4 (HB3.out.trans (HSV2.out.mono HB3.out.size)) (by have:=NB_6.out;omega) _ _ _ _),(by rw [hN];exact HMW.out.under (below4 (HB3.out.trans (HSV2.out.mono HB3.out.size)) (by have:=NB_6.out;omega) _ _ _ _)),(by rw [hN];exact NumOr.aside4 (NumOr.under L3_3.out HSV2.out) N3_6.out _ _ _ _),(by rw [hN];exact NumOr.aside4 (NumOr.under L4_3.out HSV2.out) N4_6.out _ _ _ _),NB_3.out,NB_4.out,(by rw [hN];exact NumOr.aside4 (NumOr.under L5_3.out HSV2.out) N5_6.out _ _ _ _),NB_5.out,(by rw [hN];exact NumOr.set (NumOr.under L6_3.out HSV2.out) Ha3.out),N3_6.out,N4_6.out,N5_6.out,NB_6.out⟩
   refine AllReadyH.cons (o:=⟨some 36,.load 67 (.tmp 6),67,_,_,none⟩) rfl (fun K hK=>?_) AllReadyH.nil
   go_simp
   refine hK.out _ _ trivial (fun hHeld=>?_)
   clear hK K
   try simp only [aP]
   refine wpAnyH_ready (rs:=[0,3]) (by kernel_rfl) (by simp) ?_
   refine AllReadyH.cons (o:=⟨some 34,.load 67 (.tmp 6),67,_,_,none⟩) rfl (fun K hK=>?_) ?_
   ·go_simp
    refine hK.out _ _ trivial (fun hHeld=>?_)
    clear hK K
    try simp only [aP]
    refine rdy 3 ⟨some 37,.call ⟨ .value (.func 57),#[.tmp 35,.tmp 36],#[67,67]⟩,67,_,_,none⟩ rfl (fun K hK=>?_)
    go_simp
    refine (addE V (HM3.out.under HSV.out) a1 a1 Ha1.out Ha1.out (by rw [←Ea2.out];exact Ha2.out)).mono ?_
    rintro e V1 ⟨rfl,hbN⟩
    have HSV1:=lH (HSV.out.trans (hbN.mono HSV.out.size))
    obtain ⟨r0,r1,r2,r3⟩:=(NumOr.under L6_3.out HSV1.out).cells Ha1.out
    clear hbN
    go_simp
    refine hK.out _ _ trivial (fun hHeld=>?_)
    clear hK K
    try simp only [aP]
    refine rdy 4 ⟨some 38,.call ⟨ .value (.func 57),#[.tmp 34,.tmp 37],#[67,67]⟩,67,_,_,none⟩ rfl (fun K hK=>?_)
    go_simp
    refine (addE V1 (HM3.out.under HSV1.out) a1 a2 Ha1.out Ha2.out (by rw [←Ea3.out];exact Ha3.out)).mono ?_
    rintro e V2 ⟨rfl,hbN⟩
    have HSV2:=lH (HSV1.out.trans (hbN.mono HSV1.out.size))
    clear hbN
    go_simp
    refine hK.out _ _ trivial (fun hHeld=>?_)
    clear hK K
    try simp only [aP]
    refine rdy 5 ⟨none,.store 67 (.tmp 6) (.tmp 38),0,_,_,none⟩ rfl (fun K hK=>?_)
    obtain ⟨zv0,zv1,zv2,zv3,⟨z0,o0⟩,⟨z1,o1⟩,⟨z2,o2⟩,⟨z3,o3⟩⟩:=NumOr.facts (NumOr.under L6_3.out HSV2.out)
    obtain ⟨V3,hN⟩:∃ W,W=((((V2.setCell ⟨g6,0,none⟩ (.int .u64 (a30:Int))).setCell ⟨g6,1,none⟩ (.int .u64 (a31:Int))).setCell ⟨g6,2,none⟩ (.int .u64 (a32:Int))).setCell ⟨g6,3,none⟩ (.int .u64 (a33:Int))):=⟨_,rfl⟩
    go_simp
    rw [←hN]
    refine hK.out _ _ trivial (fun hHeld=>?_)
    clear hK K
    try simp only [aP]
    refine wpAnyH_done (by kernel_rfl) ?_ _
    refine NoPanic.normal ?_
    rw [HQ4.out]
    exact ⟨rfl,rfl,rfl,(by rw [hN];exact holds_aside4 (BX3.out.under HSV2.out (Holds.lt BX3.out)) (k:=g6) (by have:=NB_6.out;omega) _ _ _ _),(by rw [hN];exact holds_aside4 (RB3.out.under HSV2.out (Holds.lt RB3.out)) (k:=g6) (by have:=NB_6.out;omega) _ _ _ _),(by rw [hN];exact below4 (HB3.out.trans (HSV2.out.mono HB3.out.size)) (by have:=NB_6.out;omega) _ _ _ _),(by rw [hN];exact HMW.out.under (below4 (HB3.out.trans (HSV2.out.mono HB3.out.size)) (by have:=NB_6.out;omega) _ _ _ _)),(by rw [hN];exact NumOr.aside4 (NumOr.under L3_3.out HSV2.out) N3_6.out _ _ _ _),(by rw [hN];exact NumOr.aside4 (NumOr.under L4_3.out HSV2.out) N4_6.out _ _ _ _),NB_3.out,NB_4.out,(by rw [hN];exact NumOr.aside4 (NumOr.under L5_3.out HSV2.out) N5_6.out _ _ _ _),NB_5.out,(by rw [hN];exact NumOr.set (NumOr.under L6_3.out HSV2.out) Ha3.out),N3_6.out,N4_6.out,N5_6.out,NB_6.out⟩
   refine AllReadyH.cons (o:=⟨some 37,.call ⟨ .value (.func 57),#[.tmp 35,.tmp 36],#[67,67]⟩,67,_,_,none⟩) rfl (fun K hK=>?_) AllReadyH.nil
   go_simp
   refine (addE V (HM3.out.under HSV.out) a1 a1 Ha1.out Ha1.out (by rw [←Ea2.out];exact Ha2.out)).mono ?_
   rintro e V1 ⟨rfl,hbN⟩
   have HSV1:=lH (HSV.out.trans (hbN.mono HSV.out.size))
   obtain ⟨r0,r1,r2,r3⟩:=(NumOr.under L6_3.out HSV1.out).cells Ha1.out
   clear hbN
   go_simp
   refine hK.out _ _ trivial (fun hHeld=>?_)
   clear hK K
   try simp only [aP]
   refine rdy 0 ⟨some 34,.load 67 (.tmp 6),67,_,_,none⟩ rfl (fun K hK=>?_)
   go_simp
   refine hK.out _ _ trivial (fun hHeld=>?_)
   clear hK K
   try simp only [aP]
   refine rdy 4 ⟨some 38,.call ⟨ .value (.func 57),#[.tmp 34,.tmp 37],#[67,67]⟩,67,_,_,none⟩ rfl (fun K hK=>?_)
   go_simp
   refine (addE V1 (HM3.out.under HSV1.out) a1 a2 Ha1.out Ha2.out (by rw [←Ea3.out];exact Ha3.out)).mono ?_
   rintro e V2 ⟨rfl,hbN⟩
   have HSV2:=lH (HSV1.out.trans (hbN.mono HSV1.out.size))
   clear hbN
   go_simp
   refine hK.out _ _ trivial (fun hHeld=>?_)
   clear hK K
   try simp only [aP]
   refine rdy 5 ⟨none,.store 67 (.tmp 6) (.tmp 38),0,_,_,none⟩ rfl (fun K hK=>?_)
   obtain ⟨zv0,zv1,zv2,zv3,⟨z0,o0⟩,⟨z1,o1⟩,⟨z2,o2⟩,⟨z3,o3⟩⟩:=NumOr.facts (NumOr.under L6_3.out HSV2.out)
   obtain ⟨V3,hN⟩:∃ W,W=((((V2.setCell ⟨g6,0,none⟩ (.int .u64 (a30:Int))).setCell ⟨g6,1,none⟩ (.int .u64 (a31:Int))).setCell ⟨g6,2,none⟩ (.int .u64 (a32:Int))).setCell ⟨g6,3,none⟩ (.int .u64 (a33:Int))):=⟨_,rfl⟩
   go_simp
   rw [←hN]
   refine hK.out _ _ trivial (fun hHeld=>?_)
   clear hK K
   try simp only [aP]
   refine wpAnyH_done (by kernel_rfl) ?_ _
   refine NoPanic.normal ?_
   rw [HQ4.out]
   exact ⟨rfl,rfl,rfl,(by rw [hN];exact holds_aside4 (BX3.out.under HSV2.out (Holds.lt BX3.out)) (k:=g6) (by have:=NB_6.out;omega) _ _ _ _),(by rw [hN];exact holds_aside4 (RB3.out.under HSV2.out (Holds.lt RB3.out)) (k:=g6) (by have:=NB_6.out;omega) _ _ _ _),(by rw [hN];exact below4 (HB3.out.trans (HSV2.out.mono HB3.out.size)) (by have:=NB_6.out;omega) _ _ _ _),(by rw [hN];exact HMW.out.under (below4 (HB3.out.trans (HSV2.out.mono HB3.out.size)) (by have:=NB_6.out;omega) _ _ _ _)),(by rw [hN];exact NumOr.aside4 (NumOr.under L3_3.out HSV2.out) N3_6.out _ _ _ _),(by rw [hN];exact NumOr.aside4 (NumOr.under L4_3.out HSV2.out) N4_6.out _ _ _ _),NB_3.out,NB_4.out,(by rw [hN];exact NumOr.aside4 (NumOr.under L5_3.out HSV2.out) N5_6.out _ _ _ _),NB_5.out,(by rw [hN];exact NumOr.set (NumOr.under L6_3.out HSV2.out) Ha3.out),N3_6.out,N4_6.out,N5_6.out,NB_6.out⟩
  refine AllReadyH.cons (o:=⟨some 36,.load 67 (.tmp 6),67,_,_,none⟩) rfl (fun K hK=>?_) AllReadyH.nil
  go_simp
  refine hK.out _ _ trivial (fun hHeld=>?_)
  clear hK K
  try simp only [aP]
  refine wpAnyH_ready (rs:=[0,1]) (by kernel_rfl) (by simp) ?_
  refine AllReadyH.cons (o:=⟨some 34,.load 67 (.tmp 6),67,_,_,none⟩) rfl (fun K hK=>?_) ?_
  ·go_simp
   refine hK.out _ _ trivial (fun hHeld=>?_)
   clear hK K
   try simp only [aP]
   refine rdy 1 ⟨some 35,.load 67 (.tmp 6),67,_,_,none⟩ rfl (fun K hK=>?_)
   go_simp
   refine hK.out _ _ trivial (fun hHeld=>?_)
   clear hK K
   try simp only [aP]
   refine rdy 3 ⟨some 37,.call ⟨ .value (.func 57),#[.tmp 35,.tmp 36],#[67,67]⟩,67,_,_,none⟩ rfl (fun K hK=>?_)
   go_simp
   refine (addE V (HM3.out.under HSV.out) a1 a1 Ha1.out Ha1.out (by rw [←Ea2.out];exact Ha2.out)).mono ?_
   rintro e V1 ⟨rfl,hbN⟩
   have HSV1:=lH (HSV.out.trans (hbN.mono HSV.out.size))
   obtain ⟨r0,r1,r2,r3⟩:=(NumOr.under L6_3.out HSV1.out).cells Ha1.out
   clear hbN
   go_simp
   refine hK.out _ _ trivial (fun hHeld=>?_)
   clear hK K
   try simp only [aP]
   refine rdy 4 ⟨some 38,.call ⟨ .value (.func 57),#[.tmp 34,.tmp 37],#[67,67]⟩,67,_,_,none⟩ rfl (fun K hK=>?_)
   go_simp
   refine (addE V1 (HM3.out.under HSV1.out) a1 a2 Ha1.out Ha2.out (by rw [←Ea3.out];exact Ha3.out)).mono ?_
   rintro e V2 ⟨rfl,hbN⟩
   have HSV2:=lH (HSV1.out.trans (hbN.mono HSV1.out.size))
   clear hbN
   go_simp
   refine hK.out _ _ trivial (fun hHeld=>?_)
   clear hK K
   try simp only [aP]
   refine rdy 5 ⟨none,.store 67 (.tmp 6) (.tmp 38),0,_,_,none⟩ rfl (fun K hK=>?_)
   obtain ⟨zv0,zv1,zv2,zv3,⟨z0,o0⟩,⟨z1,o1⟩,⟨z2,o2⟩,⟨z3,o3⟩⟩:=NumOr.facts (NumOr.under L6_3.out HSV2.out)
   obtain ⟨V3,hN⟩:∃ W,W=((((V2.setCell ⟨g6,0,none⟩ (.int .u64 (a30:Int))).setCell ⟨g6,1,none⟩ (.int .u64 (a31:Int))).setCell ⟨g6,2,none⟩ (.int .u64 (a32:Int))).setCell ⟨g6,3,none⟩ (.int .u64 (a33:Int))):=⟨_,rfl⟩
   go_simp
   rw [←hN]
   refine hK.out _ _ trivial (fun hHeld=>?_)
   clear hK K
   try simp only [aP]
   refine wpAnyH_done (by kernel_rfl) ?_ _
   refine NoPanic.normal ?_
   rw [HQ4.out]
   exact ⟨rfl,rfl,rfl,(by rw [hN];exact holds_aside4 (BX3.out.under HSV2.out (Holds.lt BX3.out)) (k:=g6) (by have:=NB_6.out;omega) _ _ _ _),(by rw [hN];exact holds_aside4 (RB3.out.under HSV2.out (Holds.lt RB3.out)) (k:=g6) (by have:=NB_6.out;omega) _ _ _ _),(by rw [hN];exact below4 (HB3.out.trans (HSV2.out.mono HB3.out.size)) (by have:=NB_6.out;omega) _ _ _ _),(by rw [hN];exact HMW.out.under (below4 (HB3.out.trans (HSV2.out.mono HB3.out.size)) (by have:=NB_6.out;omega) _ _ _ _)),(by rw [hN];exact NumOr.aside4 (NumOr.under L3_3.out HSV2.out) N3_6.out _ _ _ _),(by rw [hN];exact NumOr.aside4 (NumOr.under L4_3.out HSV2.out) N4_6.out _ _ _ _),NB_3.out,NB_4.out,(by rw [hN];exact NumOr.aside4 (NumOr.under L5_3.out HSV2.out) N5_6.out _ _ _ _),NB_5.out,(by rw [hN];exact NumOr.set (NumOr.under L6_3.out HSV2.out) Ha3.out),N3_6.out,N4_6.out,N5_6.out,NB_6.out⟩
  refine AllReadyH.cons (o:=⟨some 35,.load 67 (.tmp 6),67,_,_,none⟩) rfl (fun K hK=>?_) AllReadyH.nil
  go_simp
  refine hK.out _ _ trivial (fun hHeld=>?_)
  clear hK K
  try simp only [aP]
  refine wpAnyH_ready (rs:=[0,3]) (by kernel_rfl) (by simp) ?_
  refine AllReadyH.cons (o:=⟨some 34,.load 67 (.tmp 6),67,_,_,none⟩) rfl (fun K hK=>?_) ?_
  ·go_simp
   refine hK.out _ _ trivial (fun hHeld=>?_)
   clear hK K
   try simp only [aP]
   refine rdy 3 ⟨some 37,.call ⟨ .value (.func 57),#[.tmp 35,.tmp 36],#[67,67]⟩,67,_,_,none⟩ rfl (fun K hK=>?_)
   go_simp
   refine (addE V (HM3.out.under HSV.out) a1 a1 Ha1.out Ha1.out (by rw [←Ea2.out];exact Ha2.out)).mono ?_
   rintro e V1 ⟨rfl,hbN⟩
   have HSV1:=lH (HSV.out.trans (hbN.mono HSV.out.size))
   obtain ⟨r0,r1,r2,r3⟩:=(NumOr.under L6_3.out HSV1.out).cells Ha1.out
   clear hbN
   go_simp
   refine hK.out _ _ trivial (fun hHeld=>?_)
   clear hK K
   try simp only [aP]
   refine rdy 4 ⟨some 38,.call ⟨ .value (.func 57),#[.tmp 34,.tmp 37],#[67,67]⟩,67,_,_,none⟩ rfl (fun K hK=>?_)
   go_simp
   refine (addE V1 (HM3.out.under HSV1.out) a1 a2 Ha1.out Ha2.out (by rw [←Ea3.out];exact Ha3.out)).mono ?_
   rintro e V2 ⟨rfl,hbN⟩
   have HSV2:=lH (HSV1.out.trans (hbN.mono HSV1.out.size))
   clear hbN
   go_simp
   refine hK.out _ _ trivial (fun hHeld=>?_)
   clear hK K
   try simp only [aP]
   refine rdy 5 ⟨none,.store 67 (.tmp 6) (.tmp 38),0,_,_,none⟩ rfl (fun K hK=>?_)
   obtain ⟨zv0,zv1,zv2,zv3,⟨z0,o0⟩,⟨z1,o1⟩,⟨z2,o2⟩,⟨z3,o3⟩⟩:=NumOr.facts (NumOr.under L6_3.out HSV2.out)
   obtain ⟨V3,hN⟩:∃ W,W=((((V2.setCell ⟨g6,0,none⟩ (.int .u64 (a30:Int))).setCell ⟨g6,1,none⟩ (.int .u64 (a31:Int))).setCell ⟨g6,2,none⟩ (.int .u64 (a32:Int))).setCell ⟨g6,3,none⟩ (.int .u64 (a33:Int))):=⟨_,rfl⟩
   go_simp
   rw [←hN]
   refine hK.out _ _ trivial (fun hHeld=>?_)
   clear hK K
   try simp only [aP]
   refine wpAnyH_done (by kernel_rfl) ?_ _
   refine NoPanic.normal ?_
   rw [HQ4.out]
   exact ⟨rfl,rfl,rfl,(by rw [hN];exact holds_aside4 (BX3.out.under HSV2.out (Holds.lt BX3.out)) (k:=g6) (by have:=NB_6.out;omega) _ _ _ _),(by rw [hN];exact holds_aside4 (RB3.out.under HSV2.out (Holds.lt RB3.out)) (k:=g6) (by have:=NB_6.out;omega) _ _ _ _),(by rw [hN];exact below4 (HB3.out.trans (HSV2.out.mono HB3.out.size)) (by have:=NB_6.out;omega) _ _ _ _),(by rw [hN];exact HMW.out.under (below4 (HB3.out.trans (HSV2.out.mono HB3.out.size)) (by have:=NB_6.out;omega) _ _ _ _)),(by rw [hN];exact NumOr.aside4 (NumOr.under L3_3.out HSV2.out) N3_6.out _ _ _ _),(by rw [hN];exact NumOr.aside4 (NumOr.under L4_3.out HSV2.out) N4_6.out _ _ _ _),NB_3.out,NB_4.out,(by rw [hN];exact NumOr.aside4 (NumOr.under L5_3.out HSV2.out) N5_6.out _ _ _ _),NB_5.out,(by rw [hN];exact NumOr.set (NumOr.under L6_3.out HSV2.out) Ha3.out),N3_6.out,N4_6.out,N5_6.out,NB_6.out⟩
  refine AllReadyH.cons (o:=⟨some 37,.call ⟨ .value (.func 57),#[.tmp 35,.tmp 36],#[67,67]⟩,67,_,_,none⟩) rfl (fun K hK=>?_) AllReadyH.nil
  go_simp
  refine (addE V (HM3.out.under HSV.out) a1 a1 Ha1.out Ha1.out (by rw [←Ea2.out];exact Ha2.out)).mono ?_
  rintro e V1 ⟨rfl,hbN⟩
  have HSV1:=lH (HSV.out.trans (hbN.mono HSV.out.size))
  obtain ⟨r0,r1,r2,r3⟩:=(NumOr.under L6_3.out HSV1.out).cells Ha1.out
  clear hbN
  go_simp
  refine hK.out _ _ trivial (fun hHeld=>?_)
  clear hK K
  try simp only [aP]
  refine rdy 0 ⟨some 34,.load 67 (.tmp 6),67,_,_,none⟩ rfl (fun K hK=>?_)
  go_simp
  refine hK.out _ _ trivial (fun hHeld=>?_)
  clear hK K
  try simp only [aP]
  refine rdy 4 ⟨some 38,.call ⟨ .value (.func 57),#[.tmp 34,.tmp 37],#[67,67]⟩,67,_,_,none⟩ rfl (fun K hK=>?_)
  go_simp
  refine (addE V1 (HM3.out.under HSV1.out) a1 a2 Ha1.out Ha2.out (by rw [←Ea3.out];exact Ha3.out)).mono ?_
  rintro e V2 ⟨rfl,hbN⟩
  have HSV2:=lH (HSV1.out.trans (hbN.mono HSV1.out.size))
  clear hbN
  go_simp
  refine hK.out _ _ trivial (fun hHeld=>?_)
  clear hK K
  try simp only [aP]
  refine rdy 5 ⟨none,.store 67 (.tmp 6) (.tmp 38),0,_,_,none⟩ rfl (fun K hK=>?_)
  obtain ⟨zv0,zv1,zv2,zv3,⟨z0,o0⟩,⟨z1,o1⟩,⟨z2,o2⟩,⟨z3,o3⟩⟩:=NumOr.facts (NumOr.under L6_3.out HSV2.out)
  obtain ⟨V3,hN⟩:∃ W,W=((((V2.setCell ⟨g6,0,none⟩ (.int .u64 (a30:Int))).setCell ⟨g6,1,none⟩ (.int .u64 (a31:Int))).setCell ⟨g6,2,none⟩ (.int .u64 (a32:Int))).setCell ⟨g6,3,none⟩ (.int .u64 (a33:Int))):=⟨_,rfl⟩
  go_simp
  rw [←hN]
  refine hK.out _ _ trivial (fun hHeld=>?_)
  clear hK K
  try simp only [aP]
  refine wpAnyH_done (by kernel_rfl) ?_ _
  refine NoPanic.normal ?_
  rw [HQ4.out]
  exact ⟨rfl,rfl,rfl,(by rw [hN];exact holds_aside4 (BX3.out.under HSV2.out (Holds.lt BX3.out)) (k:=g6) (by have:=NB_6.out;omega) _ _ _ _),(by rw [hN];exact holds_aside4 (RB3.out.under HSV2.out (Holds.lt RB3.out)) (k:=g6) (by have:=NB_6.out;omega) _ _ _ _),(by rw [hN];exact below4 (HB3.out.trans (HSV2.out.mono HB3.out.size)) (by have:=NB_6.out;omega) _ _ _ _),(by rw [hN];exact HMW.out.under (below4 (HB3.out.trans (HSV2.out.mono HB3.out.size)) (by have:=NB_6.out;omega) _ _ _ _)),(by rw [hN];exact NumOr.aside4 (NumOr.under L3_3.out HSV2.out) N3_6.out _ _ _ _),(by rw [hN];exact NumOr.aside4 (NumOr.under L4_3.out HSV2.out) N4_6.out _ _ _ _),NB_3.out,NB_4.out,(by rw [hN];exact NumOr.aside4 (NumOr.under L5_3.out HSV2.out) N5_6.out _ _ _ _),NB_5.out,(by rw [hN];exact NumOr.set (NumOr.under L6_3.out HSV2.out) Ha3.out),N3_6.out,N4_6.out,N5_6.out,NB_6.out⟩
 rintro e a u4 hq
 rw [HQ4.out] at hq
 obtain ⟨rfl,htm,hdf,hst⟩:=hq
 have ST4:=lH hst
 clear hst HQ4 ST3
 obtain ⟨tm,df⟩:=a
 dsimp only at htm hdf
 subst hdf
 obtain ⟨U,hU⟩:∃ U:Nat→Value,∀ i,tm.getD i undef=U i:=⟨_,fun _=>rfl⟩
 simp only [tG,hU] at htm
 clear hU
 subst htm
 go_step
 go_step
 (repeat (first | (apply wp_seq_k;intro _ _) | apply wp_block))
 obtain ⟨QQ5,HQ5⟩:∃ Q:Exit→Act→World→Prop,Hid (Q=fun e a W=>e = .normal∧∃ (g7:Nat),a.tmps=#[tG a 0,.pointer (some ⟨w.heap.size,0,none⟩),.pointer (some ⟨w.heap.size+1,0,none⟩),.pointer (some ⟨g3,0,none⟩),.pointer (some ⟨g4,0,none⟩),.pointer (some ⟨g5,0,none⟩),.pointer (some ⟨g6,0,none⟩),.pointer (some ⟨g7,0,none⟩),tG a 8,tG a 9,tG a 10,tG a 11,tG a 12,tG a 13,tG a 14,tG a 15,tG a 16,tG a 17,tG a 18,tG a 19,tG a 20,tG a 21,tG a 22,tG a 23,tG a 24,tG a 25,tG a 26,tG a 27,tG a 28,tG a 29,tG a 30,tG a 31,tG a 32,tG a 33,tG a 34,tG a 35,tG a 36,tG a 37,tG a 38,tG a 39,tG a 40,tG a 41,tG a 42,tG a 43,tG a 44,tG a 45,tG a 46,tG a 47,tG a 48,tG a 49,tG a 50,tG a 51,tG a 52,tG a 53,tG a 54,tG a 55,tG a 56,tG a 57,tG a 58,tG a 59,tG a 60,tG a 61,tG a 62,tG a 63,tG a 64,tG a 65,tG a 66,tG a 67,tG a 68,tG a 69,tG a 70,tG a 71,tG a 72,tG a 73,tG a 74]∧a.defers=[]∧((Holds W w.heap.size 69 #[.int .u64 (x0:Int),.int .u64 (x1:Int),.int .u64 (x2:Int),.int .u64 (x3:Int),.int .u64 (y0:Int),.int .u64 (y1:Int),.int .u64 (y2:Int),.int .u64 (y3:Int),.int .u64 (z0:Int),.int .u64 (z1:Int),.int .u64 (z2:Int),.int .u64 (z3:Int)])∧(Holds W (w.heap.size+1) 69 #[.int .u64 0,.int .u64 0,.int .u64 0,.int .u64 0,.int .u64 0,.int .u64 0,.int .u64 0,.int .u64 0,.int .u64 0,.int .u64 0,.int .u64 0,.int .u64 0])∧(Below w.heap.size w W)∧(CMet W)∧(NumOr W g3 (some (en zz)))∧(NumOr W g4 (some (en yy)))∧(w.heap.size+1<g3)∧(w.heap.size+1<g4)∧(NumOr W g5 (some (en xyy)))∧(w.heap.size+1<g5)∧(NumOr W g6 (some (en a3)))∧(g3≠g6)∧(g4≠g6)∧(g5≠g6)∧(w.heap.size+1<g6))∧(NumOr W g7 (some (en fo)))∧(w.heap.size+1<g7)):=⟨_,lH rfl⟩
 refine Code.wp_mono (Q:=QQ5) ?_ ?_
 rotate_left 1
 ·have BX4:=lH (ST4.out.1)
  have RB4:=lH (ST4.out.2.1)
  have HB4:=lH (ST4.out.2.2.1)
  have HM4:=lH (ST4.out.2.2.2.1)
  have L3_4:=lH (ST4.out.2.2.2.2.1)
  have L4_4:=lH (ST4.out.2.2.2.2.2.1)
  have NB_3:=lH (ST4.out.2.2.2.2.2.2.1)
  have NB_4:=lH (ST4.out.2.2.2.2.2.2.2.1)
  have L5_4:=lH (ST4.out.2.2.2.2.2.2.2.2.1)
  have NB_5:=lH (ST4.out.2.2.2.2.2.2.2.2.2.1)
  have L6_4:=lH (ST4.out.2.2.2.2.2.2.2.2.2.2.1)
  have N3_6:=lH (ST4.out.2.2.2.2.2.2.2.2.2.2.2.1)
  have N4_6:=lH (ST4.out.2.2.2.2.2.2.2.2.2.2.2.2.1)
  have N5_6:=lH (ST4.out.2.2.2.2.2.2.2.2.2.2.2.2.2.1)
  have NB_6:=lH (ST4.out.2.2.2.2.2.2.2.2.2.2.2.2.2.2)
  have Et1:=lH (FV.out.2.2.2.2.2.2.2.2.2.2.2.2.1)
  have Efo:=lH (FV.out.2.2.2.2.2.2.2.2.2.2.2.2.2.1)
  have Hxyy:=lH (FV.out.2.2.2.2.2.2.2.2.2.2.2.2.2.2.2.2.2.2.2.2.2.2.2.2.2.2.2.2.2.2.1)
  have Ht1:=lH (FV.out.2.2.2.2.2.2.2.2.2.2.2.2.2.2.2.2.2.2.2.2.2.2.2.2.2.2.2.2.2.2.2.2.2.2.2.2.1)
  have Hfo:=lH (FV.out.2.2.2.2.2.2.2.2.2.2.2.2.2.2.2.2.2.2.2.2.2.2.2.2.2.2.2.2.2.2.2.2.2.2.2.2.2.1)
  clear ST4 FV
  obtain ⟨p50,p51,p52,p53⟩:=L5_4.out.cells Hxyy.out
  go_wp2_with fail
  have hbq0:Below u4.heap.size u4 u4:=Below.refl _ _
  refine (twiceE u4 (HM4.out.under hbq0) xyy Hxyy.out (by rw [←Et1.out];exact Ht1.out)).mono ?_
  rintro e c5_0 ⟨rfl,hbN⟩
  have hbq1:=hbq0.trans (hbN.mono hbq0.size)
  clear hbN hbq0
  clear p50 p51 p52 p53
  go_wp2_with fail
  refine (twiceE c5_0 (HM4.out.under hbq1) t1 Ht1.out (by rw [←Efo.out];exact Hfo.out)).mono ?_
  rintro e c5_1 ⟨rfl,hbN⟩
  have hbq2:=hbq1.trans (hbN.mono hbq1.size)
  clear hbN hbq1
  go_wp2_with fail
  have hbk:Below u4.heap.size u4 (c5_1.alloc (.cells #[.int .u64 (fo0:Int),.int .u64 (fo1:Int),.int .u64 (fo2:Int),.int .u64 (fo3:Int)] 67)):=hbq2.alloc hbq2.size _
  have hnew:NumOr (c5_1.alloc (.cells #[.int .u64 (fo0:Int),.int .u64 (fo1:Int),.int .u64 (fo2:Int),.int .u64 (fo3:Int)] 67)) c5_1.heap.size (some (en fo)):=by
   show Holds _ _ _ (nums .u64 (nm (en fo)))
   rw [nv_of Hfo.out]
   exact Holds.fresh _ _ _
  rw [HQ5.out]
  exact ⟨rfl,c5_1.heap.size,rfl,rfl,⟨BX4.out.under hbk (Holds.lt BX4.out),RB4.out.under hbk (Holds.lt RB4.out),HB4.out.trans (hbk.mono HB4.out.size),HM4.out.under hbk,NumOr.under L3_4.out hbk,NumOr.under L4_4.out hbk,NB_3.out,NB_4.out,NumOr.under L5_4.out hbk,NB_5.out,NumOr.under L6_4.out hbk,N3_6.out,N4_6.out,N5_6.out,NB_6.out⟩,hnew,(by have h1:=Holds.lt RB4.out;have h2:=hbq2.size;omega)⟩
 rintro e a u5 hq
 rw [HQ5.out] at hq
 obtain ⟨rfl,g7,htm,hdf,hst⟩:=hq
 have ST5:=lH hst
 clear hst HQ5 ST4
 obtain ⟨tm,df⟩:=a
 dsimp only at htm hdf
 subst hdf
 obtain ⟨U,hU⟩:∃ U:Nat→Value,∀ i,tm.getD i undef=U i:=⟨_,fun _=>rfl⟩
 simp only [tG,hU] at htm
 clear hU
 subst htm
 go_step
 go_step
 (repeat (first | (apply wp_seq_k;intro _ _) | apply wp_block))
 obtain ⟨QQ6,HQ6⟩:∃ Q:Exit→Act→World→Prop,Hid (Q=fun e a W=>e = .normal∧∃ (g8:Nat),a.tmps=#[tG a 0,.pointer (some ⟨w.heap.size,0,none⟩),.pointer (some ⟨w.heap.size+1,0,none⟩),.pointer (some ⟨g3,0,none⟩),.pointer (some ⟨g4,0,none⟩),.pointer (some ⟨g5,0,none⟩),.pointer (some ⟨g6,0,none⟩),.pointer (some ⟨g7,0,none⟩),.pointer (some ⟨g8,0,none⟩),tG a 9,tG a 10,tG a 11,tG a 12,tG a 13,tG a 14,tG a 15,tG a 16,tG a 17,tG a 18,tG a 19,tG a 20,tG a 21,tG a 22,tG a 23,tG a 24,tG a 25,tG a 26,tG a 27,tG a 28,tG a 29,tG a 30,tG a 31,tG a 32,tG a 33,tG a 34,tG a 35,tG a 36,tG a 37,tG a 38,tG a 39,tG a 40,tG a 41,tG a 42,tG a 43,tG a 44,tG a 45,tG a 46,tG a 47,tG a 48,tG a 49,tG a 50,tG a 51,tG a 52,tG a 53,tG a 54,tG a 55,tG a 56,tG a 57,tG a 58,tG a 59,tG a 60,tG a 61,tG a 62,tG a 63,tG a 64,tG a 65,tG a 66,tG a 67,tG a 68,tG a 69,tG a 70,tG a 71,tG a 72,tG a 73,tG a 74]∧a.defers=[]∧(((Holds W w.heap.size 69 #[.int .u64 (x0:Int),.int .u64 (x1:Int),.int .u64 (x2:Int),.int .u64 (x3:Int),.int .u64 (y0:Int),.int .u64 (y1:Int),.int .u64 (y2:Int),.int .u64 (y3:Int),.int .u64 (z0:Int),.int .u64 (z1:Int),.int .u64 (z2:Int),.int .u64 (z3:Int)])∧(Holds W (w.heap.size+1) 69 #[.int .u64 0,.int .u64 0,.int .u64 0,.int .u64 0,.int .u64 0,.int .u64 0,.int .u64 0,.int .u64 0,.int .u64 0,.int .u64 0,.int .u64 0,.int .u64 0])∧(Below w.heap.size w W)∧(CMet W)∧(NumOr W g3 (some (en zz)))∧(NumOr W g4 (some (en yy)))∧(w.heap.size+1<g3)∧(w.heap.size+1<g4)∧(NumOr W g5 (some (en xyy)))∧(w.heap.size+1<g5)∧(NumOr W g6 (some (en a3)))∧(g3≠g6)∧(g4≠g6)∧(g5≠g6)∧(w.heap.size+1<g6))∧(NumOr W g7 (some (en fo)))∧(w.heap.size+1<g7))∧(NumOr W g8 (some (en yz)))∧(w.heap.size+1<g8)):=⟨_,lH rfl⟩
 refine Code.wp_mono (Q:=QQ6) ?_ ?_
 rotate_left 1
 ·have BX5:=lH (ST5.out.1.1)
  have RB5:=lH (ST5.out.1.2.1)
  have HB5:=lH (ST5.out.1.2.2.1)
  have HM5:=lH (ST5.out.1.2.2.2.1)
  have L3_5:=lH (ST5.out.1.2.2.2.2.1)
  have L4_5:=lH (ST5.out.1.2.2.2.2.2.1)
  have NB_3:=lH (ST5.out.1.2.2.2.2.2.2.1)
  have NB_4:=lH (ST5.out.1.2.2.2.2.2.2.2.1)
  have L5_5:=lH (ST5.out.1.2.2.2.2.2.2.2.2.1)
  have NB_5:=lH (ST5.out.1.2.2.2.2.2.2.2.2.2.1)
  have L6_5:=lH (ST5.out.1.2.2.2.2.2.2.2.2.2.2.1)
  have N3_6:=lH (ST5.out.1.2.2.2.2.2.2.2.2.2.2.2.1)
  have N4_6:=lH (ST5.out.1.2.2.2.2.2.2.2.2.2.2.2.2.1)
  have N5_6:=lH (ST5.out.1.2.2.2.2.2.2.2.2.2.2.2.2.2.1)
  have NB_6:=lH (ST5.out.1.2.2.2.2.2.2.2.2.2.2.2.2.2.2)
  have L7_5:=lH (ST5.out.2.1)
  have NB_7:=lH (ST5.out.2.2)
  have Hy:=lH (FV.out.2.2.1)
  have Hz:=lH (FV.out.2.2.2.1)
  have Eyz:=lH (FV.out.2.2.2.2.2.2.2.2.2.2.2.2.2.2.1)
  have Hyz:=lH (FV.out.2.2.2.2.2.2.2.2.2.2.2.2.2.2.2.2.2.2.2.2.2.2.2.2.2.2.2.2.2.2.2.2.2.2.2.2.2.2.1)
  clear ST5 FV
  have k4:=BX5.out.cell 4
  have k5:=BX5.out.cell 5
  have k6:=BX5.out.cell 6
  have k7:=BX5.out.cell 7
  have k8:=BX5.out.cell 8
  have k9:=BX5.out.cell 9
  have k10:=BX5.out.cell 10
  have k11:=BX5.out.cell 11
  go_wp2_with fail
  have hbq0:Below u5.heap.size u5 u5:=Below.refl _ _
  refine (addE u5 (HM5.out.under hbq0) j.y j.z Hy.out Hz.out (by rw [←Eyz.out];exact Hyz.out)).mono ?_
  rintro e c6_0 ⟨rfl,hbN⟩
  have hbq1:=hbq0.trans (hbN.mono hbq0.size)
  clear hbN hbq0
  clear k4 k5 k6 k7 k8 k9 k10 k11
  go_wp2_with fail
  have hbk:Below u5.heap.size u5 (c6_0.alloc (.cells #[.int .u64 (yz0:Int),.int .u64 (yz1:Int),.int .u64 (yz2:Int),.int .u64 (yz3:Int)] 67)):=hbq1.alloc hbq1.size _
  have hnew:NumOr (c6_0.alloc (.cells #[.int .u64 (yz0:Int),.int .u64 (yz1:Int),.int .u64 (yz2:Int),.int .u64 (yz3:Int)] 67)) c6_0.heap.size (some (en yz)):=by
   show Holds _ _ _ (nums .u64 (nm (en yz)))
   rw [nv_of Hyz.out]
   exact Holds.fresh _ _ _
  rw [HQ6.out]
  exact ⟨rfl,c6_0.heap.size,rfl,rfl,⟨⟨BX5.out.under hbk (Holds.lt BX5.out),RB5.out.under hbk (Holds.lt RB5.out),HB5.out.trans (hbk.mono HB5.out.size),HM5.out.under hbk,NumOr.under L3_5.out hbk,NumOr.under L4_5.out hbk,NB_3.out,NB_4.out,NumOr.under L5_5.out hbk,NB_5.out,NumOr.under L6_5.out hbk,N3_6.out,N4_6.out,N5_6.out,NB_6.out⟩,NumOr.under L7_5.out hbk,NB_7.out⟩,hnew,(by have h1:=Holds.lt RB5.out;have h2:=hbq1.size;omega)⟩
 rintro e a u6 hq
 rw [HQ6.out] at hq
 obtain ⟨rfl,g8,htm,hdf,hst⟩:=hq
 have ST6:=lH hst
 clear hst HQ6 ST5
 obtain ⟨tm,df⟩:=a
 dsimp only at htm hdf
 subst hdf
 obtain ⟨U,hU⟩:∃ U:Nat→Value,∀ i,tm.getD i undef=U i:=⟨_,fun _=>rfl⟩
 simp only [tG,hU] at htm
 clear hU
 subst htm
 go_step
 go_step
 (repeat (first | (apply wp_seq_k;intro _ _) | apply wp_block))
 obtain ⟨QQ7,HQ7⟩:∃ Q:Exit→Act→World→Prop,Hid (Q=fun e a W=>e = .normal∧∃ (g9:Nat),a.tmps=#[tG a 0,.pointer (some ⟨w.heap.size,0,none⟩),.pointer (some ⟨w.heap.size+1,0,none⟩),.pointer (some ⟨g3,0,none⟩),.pointer (some ⟨g4,0,none⟩),.pointer (some ⟨g5,0,none⟩),.pointer (some ⟨g6,0,none⟩),.pointer (some ⟨g7,0,none⟩),.pointer (some ⟨g8,0,none⟩),.pointer (some ⟨g9,0,none⟩),tG a 10,tG a 11,tG a 12,tG a 13,tG a 14,tG a 15,tG a 16,tG a 17,tG a 18,tG a 19,tG a 20,tG a 21,tG a 22,tG a 23,tG a 24,tG a 25,tG a 26,tG a 27,tG a 28,tG a 29,tG a 30,tG a 31,tG a 32,tG a 33,tG a 34,tG a 35,tG a 36,tG a 37,tG a 38,tG a 39,tG a 40,tG a 41,tG a 42,tG a 43,tG a 44,tG a 45,tG a 46,tG a 47,tG a 48,tG a 49,tG a 50,tG a 51,tG a 52,tG a 53,tG a 54,tG a 55,tG a 56,tG a 57,tG a 58,tG a 59,tG a 60,tG a 61,tG a 62,tG a 63,tG a 64,tG a 65,tG a 66,tG a 67,tG a 68,tG a 69,tG a 70,tG a 71,tG a 72,tG a 73,tG a 74]∧a.defers=[]∧((((Holds W w.heap.size 69 #[.int .u64 (x0:Int),.int .u64 (x1:Int),.int .u64 (x2:Int),.int .u64 (x3:Int),.int .u64 (y0:Int),.int .u64 (y1:Int),.int .u64 (y2:Int),.int .u64 (y3:Int),.int .u64 (z0:Int),.int .u64 (z1:Int),.int .u64 (z2:Int),.int .u64 (z3:Int)])∧(Holds W (w.heap.size+1) 69 #[.int .u64 0,.int .u64 0,.int .u64 0,.int .u64 0,.int .u64 0,.int .u64 0,.int .u64 0,.int .u64 0,.int .u64 0,.int .u64 0,.int .u64 0,.int .u64 0])∧(Below w.heap.size w W)∧(CMet W)∧(NumOr W g3 (some (en zz)))∧(NumOr W g4 (some (en yy)))∧(w.heap.size+1<g3)∧(w.heap.size+1<g4)∧(NumOr W g5 (some (en xyy)))∧(w.heap.size+1<g5)∧(NumOr W g6 (some (en a3)))∧(g3≠g6)∧(g4≠g6)∧(g5≠g6)∧(w.heap.size+1<g6))∧(NumOr W g7 (some (en fo)))∧(w.heap.size+1<g7))∧(NumOr W g8 (some (en yz)))∧(w.heap.size+1<g8))∧(NumOr W g9 (some (en X)))∧(w.heap.size+1<g9)):=⟨_,lH rfl⟩
 refine Code.wp_mono (Q:=QQ7) ?_ ?_
 rotate_left 1
 ·have BX6:=lH (ST6.out.1.1.1)
  have RB6:=lH (ST6.out.1.1.2.1)
  have HB6:=lH (ST6.out.1.1.2.2.1)
  have HM6:=lH (ST6.out.1.1.2.2.2.1)
  have L3_6:=lH (ST6.out.1.1.2.2.2.2.1)
  have L4_6:=lH (ST6.out.1.1.2.2.2.2.2.1)
  have NB_3:=lH (ST6.out.1.1.2.2.2.2.2.2.1)
  have NB_4:=lH (ST6.out.1.1.2.2.2.2.2.2.2.1)
  have L5_6:=lH (ST6.out.1.1.2.2.2.2.2.2.2.2.1)
  have NB_5:=lH (ST6.out.1.1.2.2.2.2.2.2.2.2.2.1)
  have L6_6:=lH (ST6.out.1.1.2.2.2.2.2.2.2.2.2.2.1)
  have N3_6:=lH (ST6.out.1.1.2.2.2.2.2.2.2.2.2.2.2.1)
  have N4_6:=lH (ST6.out.1.1.2.2.2.2.2.2.2.2.2.2.2.2.1)
  have N5_6:=lH (ST6.out.1.1.2.2.2.2.2.2.2.2.2.2.2.2.2.1)
  have NB_6:=lH (ST6.out.1.1.2.2.2.2.2.2.2.2.2.2.2.2.2.2)
  have L7_6:=lH (ST6.out.1.2.1)
  have NB_7:=lH (ST6.out.1.2.2)
  have L8_6:=lH (ST6.out.2.1)
  have NB_8:=lH (ST6.out.2.2)
  have Eaa:=lH (FV.out.2.2.2.2.2.2.2.2.2.2.2.2.2.2.2.1)
  have Eff:=lH (FV.out.2.2.2.2.2.2.2.2.2.2.2.2.2.2.2.2.1)
  have EX:=lH (FV.out.2.2.2.2.2.2.2.2.2.2.2.2.2.2.2.2.2.1)
  have Ha3:=lH (FV.out.2.2.2.2.2.2.2.2.2.2.2.2.2.2.2.2.2.2.2.2.2.2.2.2.2.2.2.2.2.2.2.2.2.2.2.1)
  have Hfo:=lH (FV.out.2.2.2.2.2.2.2.2.2.2.2.2.2.2.2.2.2.2.2.2.2.2.2.2.2.2.2.2.2.2.2.2.2.2.2.2.2.1)
  have Haa:=lH (FV.out.2.2.2.2.2.2.2.2.2.2.2.2.2.2.2.2.2.2.2.2.2.2.2.2.2.2.2.2.2.2.2.2.2.2.2.2.2.2.2.1)
  have Hff:=lH (FV.out.2.2.2.2.2.2.2.2.2.2.2.2.2.2.2.2.2.2.2.2.2.2.2.2.2.2.2.2.2.2.2.2.2.2.2.2.2.2.2.2.1)
  have HX:=lH (FV.out.2.2.2.2.2.2.2.2.2.2.2.2.2.2.2.2.2.2.2.2.2.2.2.2.2.2.2.2.2.2.2.2.2.2.2.2.2.2.2.2.2.1)
  clear ST6 FV
  have HF:Hid (∀ W,Below u6.heap.size u6 W→(((Holds W w.heap.size 69 #[.int .u64 (x0:Int),.int .u64 (x1:Int),.int .u64 (x2:Int),.int .u64 (x3:Int),.int .u64 (y0:Int),.int .u64 (y1:Int),.int .u64 (y2:Int),.int .u64 (y3:Int),.int .u64 (z0:Int),.int .u64 (z1:Int),.int .u64 (z2:Int),.int .u64 (z3:Int)])∧(Holds W (w.heap.size+1) 69 #[.int .u64 0,.int .u64 0,.int .u64 0,.int .u64 0,.int .u64 0,.int .u64 0,.int .u64 0,.int .u64 0,.int .u64 0,.int .u64 0,.int .u64 0,.int .u64 0])∧(Below w.heap.size w W)∧(CMet W)∧(NumOr W g3 (some (en zz)))∧(NumOr W g4 (some (en yy)))∧(w.heap.size+1<g3)∧(w.heap.size+1<g4)∧(NumOr W g5 (some (en xyy)))∧(w.heap.size+1<g5)∧(NumOr W g6 (some (en a3)))∧(g3≠g6)∧(g4≠g6)∧(g5≠g6)∧(w.heap.size+1<g6))∧(NumOr W g7 (some (en fo)))∧(w.heap.size+1<g7))∧(NumOr W g8 (some (en yz)))∧(w.heap.size+1<g8)):=lH fun W h=>⟨⟨⟨BX6.out.under h (Holds.lt BX6.out),RB6.out.under h (Holds.lt RB6.out),HB6.out.trans (h.mono HB6.out.size),HM6.out.under h,NumOr.under L3_6.out h,NumOr.under L4_6.out h,NB_3.out,NB_4.out,NumOr.under L5_6.out h,NB_5.out,NumOr.under L6_6.out h,N3_6.out,N4_6.out,N5_6.out,NB_6.out⟩,NumOr.under L7_6.out h,NB_7.out⟩,NumOr.under L8_6.out h,NB_8.out⟩
  refine wp_region_noPanic ?_
  refine wp_region_held_drew (S:=fun W=>Below u6.heap.size u6 W) (by kernel_rfl) ((Below.refl _ u6).drew) (fun hHeld=>?_)
  obtain ⟨V,hV⟩:∃ W,W=u6.drew:=⟨_,rfl⟩
  rw [←hV]
  have HSV:Hid (Below u6.heap.size u6 V):=lH (by rw [hV];exact (Below.refl _ u6).drew)
  replace hHeld:(fun W=>Below u6.heap.size u6 W) V:=HSV.out
  clear hV
  refine tk 0 ⟨some 47,.load 67 (.tmp 6),67,_,_,none⟩ ?_ rfl ?_ hHeld ?_
  rotate_left 1
  ·(intro W hW;have hBC:=(NumOr.under L6_6.out hW).cells Ha3.out;obtain ⟨q0,q1,q2,q3⟩:=hBC;(try dsimp only at hW);go_simp;try with_reducible rfl)
  try simp only [aP]
  refine tk 1 ⟨some 48,.load 67 (.tmp 6),67,_,_,none⟩ ?_ rfl ?_ hHeld ?_
  rotate_left 1
  ·(intro W hW;have hBC:=(NumOr.under L6_6.out hW).cells Ha3.out;obtain ⟨q0,q1,q2,q3⟩:=hBC;(try dsimp only at hW);go_simp;try with_reducible rfl)
  try simp only [aP]
  refine tk 3 ⟨some 50,.load 67 (.tmp 7),67,_,_,none⟩ ?_ rfl ?_ hHeld ?_
  rotate_left 1
  ·(intro W hW;have hBC:=(NumOr.under L7_6.out hW).cells Hfo.out;obtain ⟨q0,q1,q2,q3⟩:=hBC;(try dsimp only at hW);go_simp;try with_reducible rfl)
  try simp only [aP]
  refine wpAnyH_ready (rs:=[2,6]) (by kernel_rfl) (by simp) ?_
  refine AllReadyH.cons (o:=⟨some 49,.call ⟨ .value (.func 56),#[.tmp 47,.tmp 48],#[67,67]⟩,67,_,_,none⟩) rfl (fun K hK=>?_) ?_
  go_simp
  refine (mulE V (HM6.out.under HSV.out) a3 a3 Ha3.out Ha3.out (by rw [←Eaa.out];exact Haa.out)).mono ?_
  rintro e V2 ⟨rfl,hbN⟩
  have HSV2:=lH (HSV.out.trans (hbN.mono HSV.out.size))
  clear hbN
  clear HSV
  go_simp
  refine hK.out _ _ (HSV2.out) (fun hHeld=>?_)
  clear hK K
  try simp only [aP]
  refine wpAnyH_ready (rs:=[4,6]) (by kernel_rfl) (by simp) ?_
  refine AllReadyH.cons (o:=⟨some 51,.call ⟨ .value (.func 78),#[.tmp 50],#[67]⟩,67,_,_,none⟩) rfl (fun K hK=>?_) ?_
  go_simp
  refine (twiceE V2 (HM6.out.under HSV2.out) fo Hfo.out (by rw [←Eff.out];exact Hff.out)).mono ?_
  rintro e V24 ⟨rfl,hbN⟩
  have HSV24:=lH (HSV2.out.trans (hbN.mono HSV2.out.size))
  clear hbN
  clear HSV2
  go_simp
  refine hK.out _ _ (HSV24.out) (fun hHeld=>?_)
  clear hK K
  try simp only [aP]
  refine wpAnyH_ready (rs:=[5,6]) (by kernel_rfl) (by simp) ?_
  refine AllReadyH.cons (o:=⟨some 52,.call ⟨ .value (.func 55),#[.tmp 49,.tmp 51],#[67,67]⟩,67,_,_,none⟩) rfl (fun K hK=>?_) ?_
  go_simp
  refine (subE V24 (HM6.out.under HSV24.out) aa ff Haa.out Hff.out (by rw [←EX.out];exact HX.out)).mono ?_
  rintro e V245 ⟨rfl,hbN⟩
  have HSV245:=lH (HSV24.out.trans (hbN.mono HSV24.out.size))
  clear hbN
  clear HSV24
  go_simp
  refine hK.out _ _ (HSV245.out) (fun hHeld=>?_)
  clear hK K
  try simp only [aP]
  refine rdy 6 ⟨some 9,.alloc 67,0,_,_,none⟩ rfl (fun K hK=>?_)
  obtain ⟨V2456,hN⟩:∃ W,W=V245.alloc (.cells #[.int .u64 0,.int .u64 0,.int .u64 0,.int .u64 0] 67):=⟨_,rfl⟩
  go_simp
  rw [←hN]
  obtain ⟨g9,hg⟩:∃ g,g=V245.heap.size:=⟨_,rfl⟩
  rw [←hg]
  have A9V2456:Hid (NumOr V2456 g9 none):=lH (by rw [hN,hg];exact NumOr.fresh _)
  have HSV2456:=lH (by rw [hN];exact HSV245.out.alloc HSV245.out.size _:Below u6.heap.size u6 V2456)
  have HG9:Hid (u6.heap.size≤g9):=lH (by rw [hg];exact HSV245.out.size)
  clear hN hg
  have HU0:=lH (show w.heap.size+1<g9 from (by have h1:=Holds.lt RB6.out;have h2:=HG9.out;omega))
  clear HSV245
  refine hK.out _ _ (HSV2456.out) (fun hHeld=>?_)
  clear hK K
  try simp only [aP]
  refine rdy 7 ⟨none,.store 67 (.tmp 9) (.tmp 52),0,_,_,none⟩ rfl (fun K hK=>?_)
  obtain ⟨zv0,zv1,zv2,zv3,⟨z0,o0⟩,⟨z1,o1⟩,⟨z2,o2⟩,⟨z3,o3⟩⟩:=NumOr.facts A9V2456.out
  obtain ⟨V24567,hN⟩:∃ W,W=((((V2456.setCell ⟨g9,0,none⟩ (.int .u64 (X0:Int))).setCell ⟨g9,1,none⟩ (.int .u64 (X1:Int))).setCell ⟨g9,2,none⟩ (.int .u64 (X2:Int))).setCell ⟨g9,3,none⟩ (.int .u64 (X3:Int))):=⟨_,rfl⟩
  go_simp
  rw [←hN]
  have A9V24567:Hid (NumOr V24567 g9 (some (en X))):=lH (by rw [hN];exact NumOr.set A9V2456.out HX.out)
  have HSV24567:=lH (by rw [hN];exact below4 HSV2456.out HG9.out _ _ _ _:Below u6.heap.size u6 V24567)
  clear hN z0 o0 z1 o1 z2 o2 z3 o3 zv0 zv1 zv2 zv3
  clear HSV2456 A9V2456
  refine hK.out _ _ (HSV24567.out) (fun hHeld=>?_)
  clear hK K
  try simp only [aP]
  refine wpAnyH_done (by kernel_rfl) ?_ _
  refine NoPanic.normal ?_
  rw [HQ7.out]
  exact ⟨rfl,g9,rfl,rfl,HF.out _ HSV24567.out,A9V24567.out,HU0.out⟩
  refine AllReadyH.cons (o:=⟨some 9,.alloc 67,0,_,_,none⟩) rfl (fun K hK=>?_) AllReadyH.nil
  obtain ⟨V246,hN⟩:∃ W,W=V24.alloc (.cells #[.int .u64 0,.int .u64 0,.int .u64 0,.int .u64 0] 67):=⟨_,rfl⟩
  go_simp
  rw [←hN]
  obtain ⟨g9,hg⟩:∃ g,g=V24.heap.size:=⟨_,rfl⟩
  rw [←hg]
  have A9V246:Hid (NumOr V246 g9 none):=lH (by rw [hN,hg];exact NumOr.fresh _)
  have HSV246:=lH (by rw [hN];exact HSV24.out.alloc HSV24.out.size _:Below u6.heap.size u6 V246)
  have HG9:Hid (u6.heap.size≤g9):=lH (by rw [hg];exact HSV24.out.size)
  clear hN hg
  have HU0:=lH (show w.heap.size+1<g9 from (by have h1:=Holds.lt RB6.out;have h2:=HG9.out;omega))
  clear HSV24
  refine hK.out _ _ (HSV246.out) (fun hHeld=>?_)
  clear hK K
  try simp only [aP]
  refine rdy 5 ⟨some 52,.call ⟨ .value (.func 55),#[.tmp 49,.tmp 51],#[67,67]⟩,67,_,_,none⟩ rfl (fun K hK=>?_)
  go_simp
  refine (subE V246 (HM6.out.under HSV246.out) aa ff Haa.out Hff.out (by rw [←EX.out];exact HX.out)).mono ?_
  rintro e V2465 ⟨rfl,hbN⟩
  have HSV2465:=lH (HSV246.out.trans (hbN.mono HSV246.out.size))
  have A9V2465:Hid (NumOr V2465 g9 none):=lH (NumOr.under A9V246.out hbN)
  clear hbN
  clear HSV246 A9V246
  go_simp
  refine hK.out _ _ (HSV2465.out) (fun hHeld=>?_)
  clear hK K
  try simp only [aP]
  refine rdy 7 ⟨none,.store 67 (.tmp 9) (.tmp 52),0,_,_,none⟩ rfl (fun K hK=>?_)
  obtain ⟨zv0,zv1,zv2,zv3,⟨z0,o0⟩,⟨z1,o1⟩,⟨z2,o2⟩,⟨z3,o3⟩⟩:=NumOr.facts A9V2465.out
  obtain ⟨V24657,hN⟩:∃ W,W=((((V2465.setCell ⟨g9,0,none⟩ (.int .u64 (X0:Int))).setCell ⟨g9,1,none⟩ (.int .u64 (X1:Int))).setCell ⟨g9,2,none⟩ (.int .u64 (X2:Int))).setCell ⟨g9,3,none⟩ (.int .u64 (X3:Int))):=⟨_,rfl⟩
  go_simp
  rw [←hN]
  have A9V24657:Hid (NumOr V24657 g9 (some (en X))):=lH (by rw [hN];exact NumOr.set A9V2465.out HX.out)
  have HSV24657:=lH (by rw [hN];exact below4 HSV2465.out HG9.out _ _ _ _:Below u6.heap.size u6 V24657)
  clear hN z0 o0 z1 o1 z2 o2 z3 o3 zv0 zv1 zv2 zv3
  clear HSV2465 A9V2465
  refine hK.out _ _ (HSV24657.out) (fun hHeld=>?_)
  clear hK K
  try simp only [aP]
  refine wpAnyH_done (by kernel_rfl) ?_ _
  refine NoPanic.normal ?_
  rw [HQ7.out]
  exact ⟨rfl,g9,rfl,rfl,HF.out _ HSV24657.out,A9V24657.out,HU0.out⟩
  refine AllReadyH.cons (o:=⟨some 9,.alloc 67,0,_,_,none⟩) rfl (fun K hK=>?_) AllReadyH.nil
  obtain ⟨V26,hN⟩:∃ W,W=V2.alloc (.cells #[.int .u64 0,.int .u64 0,.int .u64 0,.int .u64 0] 67):=⟨_,rfl⟩
  go_simp
  rw [←hN]
  obtain ⟨g9,hg⟩:∃ g,g=V2.heap.size:=⟨_,rfl⟩
  rw [←hg]
  have A9V26:Hid (NumOr V26 g9 none):=lH (by rw [hN,hg];exact NumOr.fresh _)
  have HSV26:=lH (by rw [hN];exact HSV2.out.alloc HSV2.out.size _:Below u6.heap.size u6 V26)
  have HG9:Hid (u6.heap.size≤g9):=lH (by rw [hg];exact HSV2.out.size)
  clear hN hg
  have HU0:=lH (show w.heap.size+1<g9 from (by have h1:=Holds.lt RB6.out;have h2:=HG9.out;omega))
  clear HSV2
  refine hK.out _ _ (HSV26.out) (fun hHeld=>?_)
  clear hK K
  try simp only [aP]
  refine rdy 4 ⟨some 51,.call ⟨ .value (.func 78),#[.tmp 50],#[67]⟩,67,_,_,none⟩ rfl (fun K hK=>?_)
  go_simp
  refine (twiceE V26 (HM6.out.under HSV26.out) fo Hfo.out (by rw [←Eff.out];exact Hff.out)).mono ?_
  rintro e V264 ⟨rfl,hbN⟩
  have HSV264:=lH (HSV26.out.trans (hbN.mono HSV26.out.size))
  have A9V264:Hid (NumOr V264 g9 none):=lH (NumOr.under A9V26.out hbN)
  clear hbN
  clear HSV26 A9V26
  go_simp
  refine hK.out _ _ (HSV264.out) (fun hHeld=>?_)
  clear hK K
  try simp only [aP]
  refine rdy 5 ⟨some 52,.call ⟨ .value (.func 55),#[.tmp 49,.tmp 51],#[67,67]⟩,67,_,_,none⟩ rfl (fun K hK=>?_)
  go_simp
  refine (subE V264 (HM6.out.under HSV264.out) aa ff Haa.out Hff.out (by rw [←EX.out];exact HX.out)).mono ?_
  rintro e V2645 ⟨rfl,hbN⟩
  have HSV2645:=lH (HSV264.out.trans (hbN.mono HSV264.out.size))
  have A9V2645:Hid (NumOr V2645 g9 none):=lH (NumOr.under A9V264.out hbN)
  clear hbN
  clear HSV264 A9V264
  go_simp
  refine hK.out _ _ (HSV2645.out) (fun hHeld=>?_)
  clear hK K
  try simp only [aP]
  refine rdy 7 ⟨none,.store 67 (.tmp 9) (.tmp 52),0,_,_,none⟩ rfl (fun K hK=>?_)
  obtain ⟨zv0,zv1,zv2,zv3,⟨z0,o0⟩,⟨z1,o1⟩,⟨z2,o2⟩,⟨z3,o3⟩⟩:=NumOr.facts A9V2645.out
  obtain ⟨V26457,hN⟩:∃ W,W=((((V2645.setCell ⟨g9,0,none⟩ (.int .u64 (X0:Int))).setCell ⟨g9,1,none⟩ (.int .u64 (X1:Int))).setCell ⟨g9,2,none⟩ (.int .u64 (X2:Int))).setCell ⟨g9,3,none⟩ (.int .u64 (X3:Int))):=⟨_,rfl⟩
  go_simp
  rw [←hN]
  have A9V26457:Hid (NumOr V26457 g9 (some (en X))):=lH (by rw [hN];exact NumOr.set A9V2645.out HX.out)
  have HSV26457:=lH (by rw [hN];exact below4 HSV2645.out HG9.out _ _ _ _:Below u6.heap.size u6 V26457)
  clear hN z0 o0 z1 o1 z2 o2 z3 o3 zv0 zv1 zv2 zv3
  clear HSV2645 A9V2645
  refine hK.out _ _ (HSV26457.out) (fun hHeld=>?_)
  clear hK K
  try simp only [aP]
  refine wpAnyH_done (by kernel_rfl) ?_ _
  refine NoPanic.normal ?_
  rw [HQ7.out]
  exact ⟨rfl,g9,rfl,rfl,HF.out _ HSV26457.out,A9V26457.out,HU0.out⟩
  refine AllReadyH.cons (o:=⟨some 9,.alloc 67,0,_,_,none⟩) rfl (fun K hK=>?_) AllReadyH.nil
  obtain ⟨V6,hN⟩:∃ W,W=V.alloc (.cells #[.int .u64 0,.int .u64 0,.int .u64 0,.int .u64 0] 67):=⟨_,rfl⟩
  go_simp
  rw [←hN]
  obtain ⟨g9,hg⟩:∃ g,g=V.heap.size:=⟨_,rfl⟩
  rw [←hg]
  have A9V6:Hid (NumOr V6 g9 none):=lH (by rw [hN,hg];exact NumOr.fresh _)
  have HSV6:=lH (by rw [hN];exact HSV.out.alloc HSV.out.size _:Below u6.heap.size u6 V6)
  have HG9:Hid (u6.heap.size≤g9):=lH (by rw [hg];exact HSV.out.size)
  clear hN hg
  have HU0:=lH (show w.heap.size+1<g9 from (by have h1:=Holds.lt RB6.out;have h2:=HG9.out;omega))
  clear HSV
  refine hK.out _ _ (HSV6.out) (fun hHeld=>?_)
  clear hK K
  try simp only [aP]
  refine rdy 2 ⟨some 49,.call ⟨ .value (.func 56),#[.tmp 47,.tmp 48],#[67,67]⟩,67,_,_,none⟩ rfl (fun K hK=>?_)
  go_simp
  refine (mulE V6 (HM6.out.under HSV6.out) a3 a3 Ha3.out Ha3.out (by rw [←Eaa.out];exact Haa.out)).mono ?_
  rintro e V62 ⟨rfl,hbN⟩
  have HSV62:=lH (HSV6.out.trans (hbN.mono HSV6.out.size))
  have A9V62:Hid (NumOr V62 g9 none):=lH (NumOr.under A9V6.out hbN)
  clear hbN
  clear HSV6 A9V6
  go_simp
  refine hK.out _ _ (HSV62.out) (fun hHeld=>?_)
  clear hK K
  try simp only [aP]
  refine rdy 4 ⟨some 51,.call ⟨ .value (.func 78),#[.tmp 50],#[67]⟩,67,_,_,none⟩ rfl (fun K hK=>?_)
  go_simp
  refine (twiceE V62 (HM6.out.under HSV62.out) fo Hfo.out (by rw [←Eff.out];exact Hff.out)).mono ?_
  rintro e V624 ⟨rfl,hbN⟩
  have HSV624:=lH (HSV62.out.trans (hbN.mono HSV62.out.size))
  have A9V624:Hid (NumOr V624 g9 none):=lH (NumOr.under A9V62.out hbN)
  clear hbN
  clear HSV62 A9V62
  go_simp
  refine hK.out _ _ (HSV624.out) (fun hHeld=>?_)
  clear hK K
  try simp only [aP]
  refine rdy 5 ⟨some 52,.call ⟨ .value (.func 55),#[.tmp 49,.tmp 51],#[67,67]⟩,67,_,_,none⟩ rfl (fun K hK=>?_)
  go_simp
  refine (subE V624 (HM6.out.under HSV624.out) aa ff Haa.out Hff.out (by rw [←EX.out];exact HX.out)).mono ?_
  rintro e V6245 ⟨rfl,hbN⟩
  have HSV6245:=lH (HSV624.out.trans (hbN.mono HSV624.out.size))
  have A9V6245:Hid (NumOr V6245 g9 none):=lH (NumOr.under A9V624.out hbN)
  clear hbN
  clear HSV624 A9V624
  go_simp
  refine hK.out _ _ (HSV6245.out) (fun hHeld=>?_)
  clear hK K
  try simp only [aP]
  refine rdy 7 ⟨none,.store 67 (.tmp 9) (.tmp 52),0,_,_,none⟩ rfl (fun K hK=>?_)
  obtain ⟨zv0,zv1,zv2,zv3,⟨z0,o0⟩,⟨z1,o1⟩,⟨z2,o2⟩,⟨z3,o3⟩⟩:=NumOr.facts A9V6245.out
  obtain ⟨V62457,hN⟩:∃ W,W=((((V6245.setCell ⟨g9,0,none⟩ (.int .u64 (X0:Int))).setCell ⟨g9,1,none⟩ (.int .u64 (X1:Int))).setCell ⟨g9,2,none⟩ (.int .u64 (X2:Int))).setCell ⟨g9,3,none⟩ (.int .u64 (X3:Int))):=⟨_,rfl⟩
  go_simp
  rw [←hN]
  have A9V62457:Hid (NumOr V62457 g9 (some (en X))):=lH (by rw [hN];exact NumOr.set A9V6245.out HX.out)
  have HSV62457:=lH (by rw [hN];exact below4 HSV6245.out HG9.out _ _ _ _:Below u6.heap.size u6 V62457)
  clear hN z0 o0 z1 o1 z2 o2 z3 o3 zv0 zv1 zv2 zv3
  clear HSV6245 A9V6245
  refine hK.out _ _ (HSV62457.out) (fun hHeld=>?_)
  clear hK K
  try simp only [aP]
  refine wpAnyH_done (by kernel_rfl) ?_ _
  refine NoPanic.normal ?_
  rw [HQ7.out]
  exact ⟨rfl,g9,rfl,rfl,HF.out _ HSV62457.out,A9V62457.out,HU0.out⟩
 rintro e a u7 hq
 rw [HQ7.out] at hq
 obtain ⟨rfl,g9,htm,hdf,hst⟩:=hq
 have ST7:=lH hst
 clear hst HQ7 ST6
 obtain ⟨tm,df⟩:=a
 dsimp only at htm hdf
 subst hdf
 obtain ⟨U,hU⟩:∃ U:Nat→Value,∀ i,tm.getD i undef=U i:=⟨_,fun _=>rfl⟩
 simp only [tG,hU] at htm
 clear hU
 subst htm
 go_step
 go_step
 (repeat (first | (apply wp_seq_k;intro _ _) | apply wp_block))
 obtain ⟨QQ8,HQ8⟩:∃ Q:Exit→Act→World→Prop,Hid (Q=fun e a W=>e = .normal∧∃ (g10:Nat),a.tmps=#[tG a 0,.pointer (some ⟨w.heap.size,0,none⟩),.pointer (some ⟨w.heap.size+1,0,none⟩),.pointer (some ⟨g3,0,none⟩),.pointer (some ⟨g4,0,none⟩),.pointer (some ⟨g5,0,none⟩),.pointer (some ⟨g6,0,none⟩),.pointer (some ⟨g7,0,none⟩),.pointer (some ⟨g8,0,none⟩),.pointer (some ⟨g9,0,none⟩),.pointer (some ⟨g10,0,none⟩),tG a 11,tG a 12,tG a 13,tG a 14,tG a 15,tG a 16,tG a 17,tG a 18,tG a 19,tG a 20,tG a 21,tG a 22,tG a 23,tG a 24,tG a 25,tG a 26,tG a 27,tG a 28,tG a 29,tG a 30,tG a 31,tG a 32,tG a 33,tG a 34,tG a 35,tG a 36,tG a 37,tG a 38,tG a 39,tG a 40,tG a 41,tG a 42,tG a 43,tG a 44,tG a 45,tG a 46,tG a 47,tG a 48,tG a 49,tG a 50,tG a 51,tG a 52,tG a 53,tG a 54,tG a 55,tG a 56,tG a 57,tG a 58,tG a 59,tG a 60,tG a 61,tG a 62,tG a 63,tG a 64,tG a 65,tG a 66,tG a 67,tG a 68,tG a 69,tG a 70,tG a 71,tG a 72,tG a 73,tG a 74]∧a.defers=[]∧(((((Holds W w.heap.size 69 #[.int .u64 (x0:Int),.int .u64 (x1:Int),.int .u64 (x2:Int),.int .u64 (x3:Int),.int .u64 (y0:Int),.int .u64 (y1:Int),.int .u64 (y2:Int),.int .u64 (y3:Int),.int .u64 (z0:Int),.int .u64 (z1:Int),.int .u64 (z2:Int),.int .u64 (z3:Int)])∧(Holds W (w.heap.size+1) 69 #[.int .u64 0,.int .u64 0,.int .u64 0,.int .u64 0,.int .u64 0,.int .u64 0,.int .u64 0,.int .u64 0,.int .u64 0,.int .u64 0,.int .u64 0,.int .u64 0])∧(Below w.heap.size w W)∧(CMet W)∧(NumOr W g3 (some (en zz)))∧(NumOr W g4 (some (en yy)))∧(w.heap.size+1<g3)∧(w.heap.size+1<g4)∧(NumOr W g5 (some (en xyy)))∧(w.heap.size+1<g5)∧(NumOr W g6 (some (en a3)))∧(g3≠g6)∧(g4≠g6)∧(g5≠g6)∧(w.heap.size+1<g6))∧(NumOr W g7 (some (en fo)))∧(w.heap.size+1<g7))∧(NumOr W g8 (some (en yz)))∧(w.heap.size+1<g8))∧(NumOr W g9 (some (en X)))∧(w.heap.size+1<g9))∧(NumOr W g10 (some (en Y)))∧(w.heap.size+1<g10)):=⟨_,lH rfl⟩
 refine Code.wp_mono (Q:=QQ8) ?_ ?_
 rotate_left 1
 ·have BX7:=lH (ST7.out.1.1.1.1)
  have RB7:=lH (ST7.out.1.1.1.2.1)
  have HB7:=lH (ST7.out.1.1.1.2.2.1)
  have HM7:=lH (ST7.out.1.1.1.2.2.2.1)
  have L3_7:=lH (ST7.out.1.1.1.2.2.2.2.1)
  have L4_7:=lH (ST7.out.1.1.1.2.2.2.2.2.1)
  have NB_3:=lH (ST7.out.1.1.1.2.2.2.2.2.2.1)
  have NB_4:=lH (ST7.out.1.1.1.2.2.2.2.2.2.2.1)
  have L5_7:=lH (ST7.out.1.1.1.2.2.2.2.2.2.2.2.1)
  have NB_5:=lH (ST7.out.1.1.1.2.2.2.2.2.2.2.2.2.1)
  have L6_7:=lH (ST7.out.1.1.1.2.2.2.2.2.2.2.2.2.2.1)
  have N3_6:=lH (ST7.out.1.1.1.2.2.2.2.2.2.2.2.2.2.2.1)
  have N4_6:=lH (ST7.out.1.1.1.2.2.2.2.2.2.2.2.2.2.2.2.1)
  have N5_6:=lH (ST7.out.1.1.1.2.2.2.2.2.2.2.2.2.2.2.2.2.1)
  have NB_6:=lH (ST7.out.1.1.1.2.2.2.2.2.2.2.2.2.2.2.2.2.2)
  have L7_7:=lH (ST7.out.1.1.2.1)
  have NB_7:=lH (ST7.out.1.1.2.2)
  have L8_7:=lH (ST7.out.1.2.1)
  have NB_8:=lH (ST7.out.1.2.2)
  have L9_7:=lH (ST7.out.2.1)
  have NB_9:=lH (ST7.out.2.2)
  have Efx:=lH (FV.out.2.2.2.2.2.2.2.2.2.2.2.2.2.2.2.2.2.2.1)
  have Eaf:=lH (FV.out.2.2.2.2.2.2.2.2.2.2.2.2.2.2.2.2.2.2.2.1)
  have Ega:=lH (FV.out.2.2.2.2.2.2.2.2.2.2.2.2.2.2.2.2.2.2.2.2.1)
  have Egb:=lH (FV.out.2.2.2.2.2.2.2.2.2.2.2.2.2.2.2.2.2.2.2.2.2.1)
  have Egd:=lH (FV.out.2.2.2.2.2.2.2.2.2.2.2.2.2.2.2.2.2.2.2.2.2.2.1)
  have Ege:=lH (FV.out.2.2.2.2.2.2.2.2.2.2.2.2.2.2.2.2.2.2.2.2.2.2.2.1)
  have EY:=lH (FV.out.2.2.2.2.2.2.2.2.2.2.2.2.2.2.2.2.2.2.2.2.2.2.2.2.1)
  have Hyy:=lH (FV.out.2.2.2.2.2.2.2.2.2.2.2.2.2.2.2.2.2.2.2.2.2.2.2.2.2.2.2.2.2.1)
  have Ha3:=lH (FV.out.2.2.2.2.2.2.2.2.2.2.2.2.2.2.2.2.2.2.2.2.2.2.2.2.2.2.2.2.2.2.2.2.2.2.2.1)
  have Hfo:=lH (FV.out.2.2.2.2.2.2.2.2.2.2.2.2.2.2.2.2.2.2.2.2.2.2.2.2.2.2.2.2.2.2.2.2.2.2.2.2.2.1)
  have HX:=lH (FV.out.2.2.2.2.2.2.2.2.2.2.2.2.2.2.2.2.2.2.2.2.2.2.2.2.2.2.2.2.2.2.2.2.2.2.2.2.2.2.2.2.2.1)
  have Hfx:=lH (FV.out.2.2.2.2.2.2.2.2.2.2.2.2.2.2.2.2.2.2.2.2.2.2.2.2.2.2.2.2.2.2.2.2.2.2.2.2.2.2.2.2.2.2.1)
  have Haf:=lH (FV.out.2.2.2.2.2.2.2.2.2.2.2.2.2.2.2.2.2.2.2.2.2.2.2.2.2.2.2.2.2.2.2.2.2.2.2.2.2.2.2.2.2.2.2.1)
  have Hga:=lH (FV.out.2.2.2.2.2.2.2.2.2.2.2.2.2.2.2.2.2.2.2.2.2.2.2.2.2.2.2.2.2.2.2.2.2.2.2.2.2.2.2.2.2.2.2.2.1)
  have Hgb:=lH (FV.out.2.2.2.2.2.2.2.2.2.2.2.2.2.2.2.2.2.2.2.2.2.2.2.2.2.2.2.2.2.2.2.2.2.2.2.2.2.2.2.2.2.2.2.2.2.1)
  have Hgd:=lH (FV.out.2.2.2.2.2.2.2.2.2.2.2.2.2.2.2.2.2.2.2.2.2.2.2.2.2.2.2.2.2.2.2.2.2.2.2.2.2.2.2.2.2.2.2.2.2.2.1)
  have Hge:=lH (FV.out.2.2.2.2.2.2.2.2.2.2.2.2.2.2.2.2.2.2.2.2.2.2.2.2.2.2.2.2.2.2.2.2.2.2.2.2.2.2.2.2.2.2.2.2.2.2.2.1)
  have HY:=lH (FV.out.2.2.2.2.2.2.2.2.2.2.2.2.2.2.2.2.2.2.2.2.2.2.2.2.2.2.2.2.2.2.2.2.2.2.2.2.2.2.2.2.2.2.2.2.2.2.2.2.1)
  clear ST7 FV
  have HF:Hid (∀ W,Below u7.heap.size u7 W→((((Holds W w.heap.size 69 #[.int .u64 (x0:Int),.int .u64 (x1:Int),.int .u64 (x2:Int),.int .u64 (x3:Int),.int .u64 (y0:Int),.int .u64 (y1:Int),.int .u64 (y2:Int),.int .u64 (y3:Int),.int .u64 (z0:Int),.int .u64 (z1:Int),.int .u64 (z2:Int),.int .u64 (z3:Int)])∧(Holds W (w.heap.size+1) 69 #[.int .u64 0,.int .u64 0,.int .u64 0,.int .u64 0,.int .u64 0,.int .u64 0,.int .u64 0,.int .u64 0,.int .u64 0,.int .u64 0,.int .u64 0,.int .u64 0])∧(Below w.heap.size w W)∧(CMet W)∧(NumOr W g3 (some (en zz)))∧(NumOr W g4 (some (en yy)))∧(w.heap.size+1<g3)∧(w.heap.size+1<g4)∧(NumOr W g5 (some (en xyy)))∧(w.heap.size+1<g5)∧(NumOr W g6 (some (en a3)))∧(g3≠g6)∧(g4≠g6)∧(g5≠g6)∧(w.heap.size+1<g6))∧(NumOr W g7 (some (en fo)))∧(w.heap.size+1<g7))∧(NumOr W g8 (some (en yz)))∧(w.heap.size+1<g8))∧(NumOr W g9 (some (en X)))∧(w.heap.size+1<g9)):=lH fun W h=>⟨⟨⟨⟨BX7.out.under h (Holds.lt BX7.out),RB7.out.under h (Holds.lt RB7.out),HB7.out.trans (h.mono HB7.out.size),HM7.out.under h,NumOr.under L3_7.out h,NumOr.under L4_7.out h,NB_3.out,NB_4.out,NumOr.under L5_7.out h,NB_5.out,NumOr.under L6_7.out h,N3_6.out,N4_6.out,N5_6.out,NB_6.out⟩,NumOr.under L7_7.out h,NB_7.out⟩,NumOr.under L8_7.out h,NB_8.out⟩,NumOr.under L9_7.out h,NB_9.out⟩
  refine wp_region_noPanic ?_
  refine wp_region_held_drew (S:=fun W=>Below u7.heap.size u7 W) (by kernel_rfl) ((Below.refl _ u7).drew) (fun hHeld=>?_)
  obtain ⟨V,hV⟩:∃ W,W=u7.drew:=⟨_,rfl⟩
  rw [←hV]
  have HSV:Hid (Below u7.heap.size u7 V):=lH (by rw [hV];exact (Below.refl _ u7).drew)
  replace hHeld:(fun W=>Below u7.heap.size u7 W) V:=HSV.out
  clear hV
  refine tk 0 ⟨some 53,.load 67 (.tmp 6),67,_,_,none⟩ ?_ rfl ?_ hHeld ?_
  rotate_left 1
  ·(intro W hW;have hBC:=(NumOr.under L6_7.out hW).cells Ha3.out;obtain ⟨q0,q1,q2,q3⟩:=hBC;(try dsimp only at hW);go_simp;try with_reducible rfl)
  try simp only [aP]
  refine tk 1 ⟨some 54,.load 67 (.tmp 7),67,_,_,none⟩ ?_ rfl ?_ hHeld ?_
  rotate_left 1
  ·(intro W hW;have hBC:=(NumOr.under L7_7.out hW).cells Hfo.out;obtain ⟨q0,q1,q2,q3⟩:=hBC;(try dsimp only at hW);go_simp;try with_reducible rfl)
  try simp only [aP]
  refine tk 2 ⟨some 55,.load 67 (.tmp 9),67,_,_,none⟩ ?_ rfl ?_ hHeld ?_
  rotate_left 1
  ·(intro W hW;have hBC:=(NumOr.under L9_7.out hW).cells HX.out;obtain ⟨q0,q1,q2,q3⟩:=hBC;(try dsimp only at hW);go_simp;try with_reducible rfl)
  try simp only [aP]
  refine tk 5 ⟨some 58,.load 67 (.tmp 4),67,_,_,none⟩ ?_ rfl ?_ hHeld ?_
  rotate_left 1
  ·(intro W hW;have hBC:=(NumOr.under L4_7.out hW).cells Hyy.out;obtain ⟨q0,q1,q2,q3⟩:=hBC;(try dsimp only at hW);go_simp;try with_reducible rfl)
  try simp only [aP]
  refine tk 6 ⟨some 59,.load 67 (.tmp 4),67,_,_,none⟩ ?_ rfl ?_ hHeld ?_
  rotate_left 1
  ·(intro W hW;have hBC:=(NumOr.under L4_7.out hW).cells Hyy.out;obtain ⟨q0,q1,q2,q3⟩:=hBC;(try dsimp only at hW);go_simp;try with_reducible rfl)
  try simp only [aP]
  refine wpAnyH_ready (rs:=[3,12]) (by kernel_rfl) (by simp) ?_
  refine AllReadyH.cons (o:=⟨some 56,.call ⟨ .value (.func 55),#[.tmp 54,.tmp 55],#[67,67]⟩,67,_,_,none⟩) rfl (fun K hK=>?_) ?_
  go_simp
  refine (subE V (HM7.out.under HSV.out) fo X Hfo.out HX.out (by rw [←Efx.out];exact Hfx.out)).mono ?_
  rintro e V3 ⟨rfl,hbN⟩
  have HSV3:=lH (HSV.out.trans (hbN.mono HSV.out.size))
  clear hbN
  clear HSV
  go_simp
  refine hK.out _ _ (HSV3.out) (fun hHeld=>?_)
  clear hK K
  try simp only [aP]
  refine wpAnyH_ready (rs:=[4,12]) (by kernel_rfl) (by simp) ?_
  refine AllReadyH.cons (o:=⟨some 57,.call ⟨ .value (.func 56),#[.tmp 53,.tmp 56],#[67,67]⟩,67,_,_,none⟩) rfl (fun K hK=>?_) ?_
  go_simp
  refine (mulE V3 (HM7.out.under HSV3.out) a3 fx Ha3.out Hfx.out (by rw [←Eaf.out];exact Haf.out)).mono ?_
  rintro e V34 ⟨rfl,hbN⟩
  have HSV34:=lH (HSV3.out.trans (hbN.mono HSV3.out.size))
  clear hbN
  clear HSV3
  go_simp
  refine hK.out _ _ (HSV34.out) (fun hHeld=>?_)
  clear hK K
  try simp only [aP]
  refine wpAnyH_ready (rs:=[7,12]) (by kernel_rfl) (by simp) ?_
  refine AllReadyH.cons (o:=⟨some 60,.call ⟨ .value (.func 56),#[.tmp 58,.tmp 59],#[67,67]⟩,67,_,_,none⟩) rfl (fun K hK=>?_) ?_
  go_simp
  refine (mulE V34 (HM7.out.under HSV34.out) yy yy Hyy.out Hyy.out (by rw [←Ega.out];exact Hga.out)).mono ?_
  rintro e V347 ⟨rfl,hbN⟩
  have HSV347:=lH (HSV34.out.trans (hbN.mono HSV34.out.size))
  clear hbN
  clear HSV34
  go_simp
  refine hK.out _ _ (HSV347.out) (fun hHeld=>?_)
  clear hK K
  try simp only [aP]
  refine wpAnyH_ready (rs:=[8,12]) (by kernel_rfl) (by simp) ?_
  refine AllReadyH.cons (o:=⟨some 61,.call ⟨ .value (.func 78),#[.tmp 60],#[67]⟩,67,_,_,none⟩) rfl (fun K hK=>?_) ?_
  go_simp
  refine (twiceE V347 (HM7.out.under HSV347.out) ga Hga.out (by rw [←Egb.out];exact Hgb.out)).mono ?_
  rintro e V3478 ⟨rfl,hbN⟩
  have HSV3478:=lH (HSV347.out.trans (hbN.mono HSV347.out.size))
  clear hbN
  clear HSV347
  go_simp
  refine hK.out _ _ (HSV3478.out) (fun hHeld=>?_)
  clear hK K
  try simp only [aP]
  refine wpAnyH_ready (rs:=[9,12]) (by kernel_rfl) (by simp) ?_
  refine AllReadyH.cons (o:=⟨some 62,.call ⟨ .value (.func 78),#[.tmp 61],#[67]⟩,67,_,_,none⟩) rfl (fun K hK=>?_) ?_
  go_simp
  refine (twiceE V3478 (HM7.out.under HSV3478.out) gb Hgb.out (by rw [←Egd.out];exact Hgd.out)).mono ?_
  rintro e V34789 ⟨rfl,hbN⟩
  have HSV34789:=lH (HSV3478.out.trans (hbN.mono HSV3478.out.size))
  clear hbN
  clear HSV3478
  go_simp
  refine hK.out _ _ (HSV34789.out) (fun hHeld=>?_)
  clear hK K
  try simp only [aP]
  refine wpAnyH_ready (rs:=[10,12]) (by kernel_rfl) (by simp) ?_
  refine AllReadyH.cons (o:=⟨some 63,.call ⟨ .value (.func 78),#[.tmp 62],#[67]⟩,67,_,_,none⟩) rfl (fun K hK=>?_) ?_
  go_simp
  refine (twiceE V34789 (HM7.out.under HSV34789.out) gd Hgd.out (by rw [←Ege.out];exact Hge.out)).mono ?_
  rintro e V34789a ⟨rfl,hbN⟩
  have HSV34789a:=lH (HSV34789.out.trans (hbN.mono HSV34789.out.size))
  clear hbN
  clear HSV34789
  go_simp
  refine hK.out _ _ (HSV34789a.out) (fun hHeld=>?_)
  clear hK K
  try simp only [aP]
  refine wpAnyH_ready (rs:=[11,12]) (by kernel_rfl) (by simp) ?_
  refine AllReadyH.cons (o:=⟨some 64,.call ⟨ .value (.func 55),#[.tmp 57,.tmp 63],#[67,67]⟩,67,_,_,none⟩) rfl (fun K hK=>?_) ?_
  go_simp
  refine (subE V34789a (HM7.out.under HSV34789a.out) af ge Haf.out Hge.out (by rw [←EY.out];exact HY.out)).mono ?_
  rintro e V34789ab ⟨rfl,hbN⟩
  have HSV34789ab:=lH (HSV34789a.out.trans (hbN.mono HSV34789a.out.size))
  clear hbN
  clear HSV34789a
  go_simp
  refine hK.out _ _ (HSV34789ab.out) (fun hHeld=>?_)
  clear hK K
  try simp only [aP]
  refine rdy 12 ⟨some 10,.alloc 67,0,_,_,none⟩ rfl (fun K hK=>?_)
  obtain ⟨V34789abc,hN⟩:∃ W,W=V34789ab.alloc (.cells #[.int .u64 0,.int .u64 0,.int .u64 0,.int .u64 0] 67):=⟨_,rfl⟩
  go_simp
  rw [←hN]
  obtain ⟨g10,hg⟩:∃ g,g=V34789ab.heap.size:=⟨_,rfl⟩
  rw [←hg]
  have A10V34789abc:Hid (NumOr V34789abc g10 none):=lH (by rw [hN,hg];exact NumOr.fresh _)
  have HSV34789abc:=lH (by rw [hN];exact HSV34789ab.out.alloc HSV34789ab.out.size _:Below u7.heap.size u7 V34789abc)
  have HG10:Hid (u7.heap.size≤g10):=lH (by rw [hg];exact HSV34789ab.out.size)
  clear hN hg
  have HU0:=lH (show w.heap.size+1<g10 from (by have h1:=Holds.lt RB7.out;have h2:=HG10.out;omega))
  clear HSV34789ab
  refine hK.out _ _ (HSV34789abc.out) (fun hHeld=>?_)
  clear hK K
  try simp only [aP]
  refine rdy 13 ⟨none,.store 67 (.tmp 10) (.tmp 64),0,_,_,none⟩ rfl (fun K hK=>?_)
  obtain ⟨zv0,zv1,zv2,zv3,⟨z0,o0⟩,⟨z1,o1⟩,⟨z2,o2⟩,⟨z3,o3⟩⟩:=NumOr.facts A10V34789abc.out
  obtain ⟨V34789abcd,hN⟩:∃ W,W=((((V34789abc.setCell ⟨g10,0,none⟩ (.int .u64 (Y0:Int))).setCell ⟨g10,1,none⟩ (.int .u64 (Y1:Int))).setCell ⟨g10,2,none⟩ (.int .u64 (Y2:Int))).setCell ⟨g10,3,none⟩ (.int .u64 (Y3:Int))):=⟨_,rfl⟩
  go_simp
  rw [←hN]
  have A10V34789abcd:Hid (NumOr V34789abcd g10 (some (en Y))):=lH (by rw [hN];exact NumOr.set A10V34789abc.out HY.out)
  have HSV34789abcd:=lH (by rw [hN];exact below4 HSV34789abc.out HG10.out _ _ _ _:Below u7.heap.size u7 V34789abcd)
  clear hN z0 o0 z1 o1 z2 o2 z3 o3 zv0 zv1 zv2 zv3
  clear HSV34789abc A10V34789abc
  refine hK.out _ _ (HSV34789abcd.out) (fun hHeld=>?_)
  clear hK K
  try simp only [aP]
  refine wpAnyH_done (by kernel_rfl) ?_ _
  refine NoPanic.normal ?_
  rw [HQ8.out]
  exact ⟨rfl,g10,rfl,rfl,HF.out _ HSV34789abcd.out,A10V34789abcd.out,HU0.out⟩
  refine AllReadyH.cons (o:=⟨some 10,.alloc 67,0,_,_,none⟩) rfl (fun K hK=>?_) AllReadyH.nil
  obtain ⟨V34789ac,hN⟩:∃ W,W=V34789a.alloc (.cells #[.int .u64 0,.int .u64 0,.int .u64 0,.int .u64 0] 67):=⟨_,rfl⟩
  go_simp
  rw [←hN]
  obtain ⟨g10,hg⟩:∃ g,g=V34789a.heap.size:=⟨_,rfl⟩
  rw [←hg]
  have A10V34789ac:Hid (NumOr V34789ac g10 none):=lH (by rw [hN,hg];exact NumOr.fresh _)
  have HSV34789ac:=lH (by rw [hN];exact HSV34789a.out.alloc HSV34789a.out.size _:Below u7.heap.size u7 V34789ac)
  have HG10:Hid (u7.heap.size≤g10):=lH (by rw [hg];exact HSV34789a.out.size)
  clear hN hg
  have HU0:=lH (show w.heap.size+1<g10 from (by have h1:=Holds.lt RB7.out;have h2:=HG10.out;omega))
  clear HSV34789a
  refine hK.out _ _ (HSV34789ac.out) (fun hHeld=>?_)
  clear hK K
  try simp only [aP]
  refine rdy 11 ⟨some 64,.call ⟨ .value (.func 55),#[.tmp 57,.tmp 63],#[67,67]⟩,67,_,_,none⟩ rfl (fun K hK=>?_)
  go_simp
  refine (subE V34789ac (HM7.out.under HSV34789ac.out) af ge Haf.out Hge.out (by rw [←EY.out];exact HY.out)).mono ?_
  rintro e V34789acb ⟨rfl,hbN⟩
  have HSV34789acb:=lH (HSV34789ac.out.trans (hbN.mono HSV34789ac.out.size))
  have A10V34789acb:Hid (NumOr V34789acb g10 none):=lH (NumOr.under A10V34789ac.out hbN)
  clear hbN
  clear HSV34789ac A10V34789ac
  go_simp
  refine hK.out _ _ (HSV34789acb.out) (fun hHeld=>?_)
  clear hK K
  try simp only [aP]
  refine rdy 13 ⟨none,.store 67 (.tmp 10) (.tmp 64),0,_,_,none⟩ rfl (fun K hK=>?_)
  obtain ⟨zv0,zv1,zv2,zv3,⟨z0,o0⟩,⟨z1,o1⟩,⟨z2,o2⟩,⟨z3,o3⟩⟩:=NumOr.facts A10V34789acb.out
  obtain ⟨V34789acbd,hN⟩:∃ W,W=((((V34789acb.setCell ⟨g10,0,none⟩ (.int .u64 (Y0:Int))).setCell ⟨g10,1,none⟩ (.int .u64 (Y1:Int))).setCell ⟨g10,2,none⟩ (.int .u64 (Y2:Int))).setCell ⟨g10,3,none⟩ (.int .u64 (Y3:Int))):=⟨_,rfl⟩
  go_simp
  rw [←hN]
  have A10V34789acbd:Hid (NumOr V34789acbd g10 (some (en Y))):=lH (by rw [hN];exact NumOr.set A10V34789acb.out HY.out)
  have HSV34789acbd:=lH (by rw [hN];exact below4 HSV34789acb.out HG10.out _ _ _ _:Below u7.heap.size u7 V34789acbd)
  clear hN z0 o0 z1 o1 z2 o2 z3 o3 zv0 zv1 zv2 zv3
  clear HSV34789acb A10V34789acb
  refine hK.out _ _ (HSV34789acbd.out) (fun hHeld=>?_)
  clear hK K
  try simp only [aP]
  refine wpAnyH_done (by kernel_rfl) ?_ _
  refine NoPanic.normal ?_
  rw [HQ8.out]
  exact ⟨rfl,g10,rfl,rfl,HF.out _ HSV34789acbd.out,A10V34789acbd.out,HU0.out⟩
  refine AllReadyH.cons (o:=⟨some 10,.alloc 67,0,_,_,none⟩) rfl (fun K hK=>?_) AllReadyH.nil
  obtain ⟨V34789c,hN⟩:∃ W,W=V34789.alloc (.cells #[.int .u64 0,.int .u64 0,.int .u64 0,.int .u64 0] 67):=⟨_,rfl⟩
  go_simp
  rw [←hN]
  obtain ⟨g10,hg⟩:∃ g,g=V34789.heap.size:=⟨_,rfl⟩
  rw [←hg]
  have A10V34789c:Hid (NumOr V34789c g10 none):=lH (by rw [hN,hg];exact NumOr.fresh _)
  have HSV34789c:=lH (by rw [hN];exact HSV34789.out.alloc HSV34789.out.size _:Below u7.heap.size u7 V34789c)
  have HG10:Hid (u7.heap.size≤g10):=lH (by rw [hg];exact HSV34789.out.size)
  clear hN hg
  have HU0:=lH (show w.heap.size+1<g10 from (by have h1:=Holds.lt RB7.out;have h2:=HG10.out;omega))
  clear HSV34789
  refine hK.out _ _ (HSV34789c.out) (fun hHeld=>?_)
  clear hK K
  try simp only [aP]
  refine rdy 10 ⟨some 63,.call ⟨ .value (.func 78),#[.tmp 62],#[67]⟩,67,_,_,none⟩ rfl (fun K hK=>?_)
  go_simp
  refine (twiceE V34789c (HM7.out.under HSV34789c.out) gd Hgd.out (by rw [←Ege.out];exact Hge.out)).mono ?_
  rintro e V34789ca ⟨rfl,hbN⟩
  have HSV34789ca:=lH (HSV34789c.out.trans (hbN.mono HSV34789c.out.size))
  have A10V34789ca:Hid (NumOr V34789ca g10 none):=lH (NumOr.under A10V34789c.out hbN)
  clear hbN
  clear HSV34789c A10V34789c
  go_simp
  refine hK.out _ _ (HSV34789ca.out) (fun hHeld=>?_)
  clear hK K
  try simp only [aP]
  refine rdy 11 ⟨some 64,.call ⟨ .value (.func 55),#[.tmp 57,.tmp 63],#[67,67]⟩,67,_,_,none⟩ rfl (fun K hK=>?_)
  go_simp
  refine (subE V34789ca (HM7.out.under HSV34789ca.out) af ge Haf.out Hge.out (by rw [←EY.out];exact HY.out)).mono ?_
  rintro e V34789cab ⟨rfl,hbN⟩
  have HSV34789cab:=lH (HSV34789ca.out.trans (hbN.mono HSV34789ca.out.size))
  have A10V34789cab:Hid (NumOr V34789cab g10 none):=lH (NumOr.under A10V34789ca.out hbN)
  clear hbN
  clear HSV34789ca A10V34789ca
  go_simp
  refine hK.out _ _ (HSV34789cab.out) (fun hHeld=>?_)
  clear hK K
  try simp only [aP]
  refine rdy 13 ⟨none,.store 67 (.tmp 10) (.tmp 64),0,_,_,none⟩ rfl (fun K hK=>?_)
  obtain ⟨zv0,zv1,zv2,zv3,⟨z0,o0⟩,⟨z1,o1⟩,⟨z2,o2⟩,⟨z3,o3⟩⟩:=NumOr.facts A10V34789cab.out
  obtain ⟨V34789cabd,hN⟩:∃ W,W=((((V34789cab.setCell ⟨g10,0,none⟩ (.int .u64 (Y0:Int))).setCell ⟨g10,1,none⟩ (.int .u64 (Y1:Int))).setCell ⟨g10,2,none⟩ (.int .u64 (Y2:Int))).setCell ⟨g10,3,none⟩ (.int .u64 (Y3:Int))):=⟨_,rfl⟩
  go_simp
  rw [←hN]
  have A10V34789cabd:Hid (NumOr V34789cabd g10 (some (en Y))):=lH (by rw [hN];exact NumOr.set A10V34789cab.out HY.out)
  have HSV34789cabd:=lH (by rw [hN];exact below4 HSV34789cab.out HG10.out _ _ _ _:Below u7.heap.size u7 V34789cabd)
  clear hN z0 o0 z1 o1 z2 o2 z3 o3 zv0 zv1 zv2 zv3
  clear HSV34789cab A10V34789cab
  refine hK.out _ _ (HSV34789cabd.out) (fun hHeld=>?_)
  clear hK K
  try simp only [aP]
  refine wpAnyH_done (by kernel_rfl) ?_ _
  refine NoPanic.normal ?_
  rw [HQ8.out]
  exact ⟨rfl,g10,rfl,rfl,HF.out _ HSV34789cabd.out,A10V34789cabd.out,HU0.out⟩
  refine AllReadyH.cons (o:=⟨some 10,.alloc 67,0,_,_,none⟩) rfl (fun K hK=>?_) AllReadyH.nil
  obtain ⟨V3478c,hN⟩:∃ W,W=V3478.alloc (.cells #[.int .u64 0,.int .u64 0,.int .u64 0,.int .u64 0] 67):=⟨_,rfl⟩
  go_simp
  rw [←hN]
  obtain ⟨g10,hg⟩:∃ g,g=V3478.heap.size:=⟨_,rfl⟩
  rw [←hg]
  have A10V3478c:Hid (NumOr V3478c g10 none):=lH (by rw [hN,hg];exact NumOr.fresh _)
  have HSV3478c:=lH (by rw [hN];exact HSV3478.out.alloc HSV3478.out.size _:Below u7.heap.size u7 V3478c)
  have HG10:Hid (u7.heap.size≤g10):=lH (by rw [hg];exact HSV3478.out.size)
  clear hN hg
  have HU0:=lH (show w.heap.size+1<g10 from (by have h1:=Holds.lt RB7.out;have h2:=HG10.out;omega))
  clear HSV3478
  refine hK.out _ _ (HSV3478c.out) (fun hHeld=>?_)
  clear hK K
  try simp only [aP]
  refine rdy 9 ⟨some 62,.call ⟨ .value (.func 78),#[.tmp 61],#[67]⟩,67,_,_,none⟩ rfl (fun K hK=>?_)
  go_simp
  refine (twiceE V3478c (HM7.out.under HSV3478c.out) gb Hgb.out (by rw [←Egd.out];exact Hgd.out)).mono ?_
  rintro e V3478c9 ⟨rfl,hbN⟩
  have HSV3478c9:=lH (HSV3478c.out.trans (hbN.mono HSV3478c.out.size))
  have A10V3478c9:Hid (NumOr V3478c9 g10 none):=lH (NumOr.under A10V3478c.out hbN)
  clear hbN
  clear HSV3478c A10V3478c
  go_simp
  refine hK.out _ _ (HSV3478c9.out) (fun hHeld=>?_)
  clear hK K
  try simp only [aP]
  refine rdy 10 ⟨some 63,.call ⟨ .value (.func 78),#[.tmp 62],#[67]⟩,67,_,_,none⟩ rfl (fun K hK=>?_)
  go_simp
  refine (twiceE V3478c9 (HM7.out.under HSV3478c9.out) gd Hgd.out (by rw [←Ege.out];exact Hge.out)).mono ?_
  rintro e V3478c9a ⟨rfl,hbN⟩
  have HSV3478c9a:=lH (HSV3478c9.out.trans (hbN.mono HSV3478c9.out.size))
  have A10V3478c9a:Hid (NumOr V3478c9a g10 none):=lH (NumOr.under A10V3478c9.out hbN)
  clear hbN
  clear HSV3478c9 A10V3478c9
  go_simp
  refine hK.out _ _ (HSV3478c9a.out) (fun hHeld=>?_)
  clear hK K
  try simp only [aP]
  refine rdy 11 ⟨some 64,.call ⟨ .value (.func 55),#[.tmp 57,.tmp 63],#[67,67]⟩,67,_,_,none⟩ rfl (fun K hK=>?_)
  go_simp
  refine (subE V3478c9a (HM7.out.under HSV3478c9a.out) af ge Haf.out Hge.out (by rw [←EY.out];exact HY.out)).mono ?_
  rintro e V3478c9ab ⟨rfl,hbN⟩
  have HSV3478c9ab:=lH (HSV3478c9a.out.trans (hbN.mono HSV3478c9a.out.size))
  have A10V3478c9ab:Hid (NumOr V3478c9ab g10 none):=lH (NumOr.under A10V3478c9a.out hbN)
  clear hbN
  clear HSV3478c9a A10V3478c9a
  go_simp
  refine hK.out _ _ (HSV3478c9ab.out) (fun hHeld=>?_)
  clear hK K
  try simp only [aP]
  refine rdy 13 ⟨none,.store 67 (.tmp 10) (.tmp 64),0,_,_,none⟩ rfl (fun K hK=>?_)
  obtain ⟨zv0,zv1,zv2,zv3,⟨z0,o0⟩,⟨z1,o1⟩,⟨z2,o2⟩,⟨z3,o3⟩⟩:=NumOr.facts A10V3478c9ab.out
  obtain ⟨V3478c9abd,hN⟩:∃ W,W=((((V3478c9ab.setCell ⟨g10,0,none⟩ (.int .u64 (Y0:Int))).setCell ⟨g10,1,none⟩ (.int .u64 (Y1:Int))).setCell ⟨g10,2,none⟩ (.int .u64 (Y2:Int))).setCell ⟨g10,3,none⟩ (.int .u64 (Y3:Int))):=⟨_,rfl⟩
  go_simp
  rw [←hN]
  have A10V3478c9abd:Hid (NumOr V3478c9abd g10 (some (en Y))):=lH (by rw [hN];exact NumOr.set A10V3478c9ab.out HY.out)
  have HSV3478c9abd:=lH (by rw [hN];exact below4 HSV3478c9ab.out HG10.out _ _ _ _:Below u7.heap.size u7 V3478c9abd)
  clear hN z0 o0 z1 o1 z2 o2 z3 o3 zv0 zv1 zv2 zv3
  clear HSV3478c9ab A10V3478c9ab
  refine hK.out _ _ (HSV3478c9abd.out) (fun hHeld=>?_)
  clear hK K
  try simp only [aP]
  refine wpAnyH_done (by kernel_rfl) ?_ _
  refine NoPanic.normal ?_
  rw [HQ8.out]
  exact ⟨rfl,g10,rfl,rfl,HF.out _ HSV3478c9abd.out,A10V3478c9abd.out,HU0.out⟩
  refine AllReadyH.cons (o:=⟨some 10,.alloc 67,0,_,_,none⟩) rfl (fun K hK=>?_) AllReadyH.nil
  obtain ⟨V347c,hN⟩:∃ W,W=V347.alloc (.cells #[.int .u64 0,.int .u64 0,.int .u64 0,.int .u64 0] 67):=⟨_,rfl⟩
  go_simp
  rw [←hN]
  obtain ⟨g10,hg⟩:∃ g,g=V347.heap.size:=⟨_,rfl⟩
  rw [←hg]
  have A10V347c:Hid (NumOr V347c g10 none):=lH (by rw [hN,hg];exact NumOr.fresh _)
  have HSV347c:=lH (by rw [hN];exact HSV347.out.alloc HSV347.out.size _:Below u7.heap.size u7 V347c)
  have HG10:Hid (u7.heap.size≤g10):=lH (by rw [hg];exact HSV347.out.size)
  clear hN hg
  have HU0:=lH (show w.heap.size+1<g10 from (by have h1:=Holds.lt RB7.out;have h2:=HG10.out;omega))
  clear HSV347
  refine hK.out _ _ (HSV347c.out) (fun hHeld=>?_)
  clear hK K
  try simp only [aP]
  refine rdy 8 ⟨some 61,.call ⟨ .value (.func 78),#[.tmp 60],#[67]⟩,67,_,_,none⟩ rfl (fun K hK=>?_)
  go_simp
  refine (twiceE V347c (HM7.out.under HSV347c.out) ga Hga.out (by rw [←Egb.out];exact Hgb.out)).mono ?_
  rintro e V347c8 ⟨rfl,hbN⟩
  have HSV347c8:=lH (HSV347c.out.trans (hbN.mono HSV347c.out.size))
  have A10V347c8:Hid (NumOr V347c8 g10 none):=lH (NumOr.under A10V347c.out hbN)
  clear hbN
  clear HSV347c A10V347c
  go_simp
  refine hK.out _ _ (HSV347c8.out) (fun hHeld=>?_)
  clear hK K
  try simp only [aP]
  refine rdy 9 ⟨some 62,.call ⟨ .value (.func 78),#[.tmp 61],#[67]⟩,67,_,_,none⟩ rfl (fun K hK=>?_)
  go_simp
  refine (twiceE V347c8 (HM7.out.under HSV347c8.out) gb Hgb.out (by rw [←Egd.out];exact Hgd.out)).mono ?_
  rintro e V347c89 ⟨rfl,hbN⟩
  have HSV347c89:=lH (HSV347c8.out.trans (hbN.mono HSV347c8.out.size))
  have A10V347c89:Hid (NumOr V347c89 g10 none):=lH (NumOr.under A10V347c8.out hbN)
  clear hbN
  clear HSV347c8 A10V347c8
  go_simp
  refine hK.out _ _ (HSV347c89.out) (fun hHeld=>?_)
  clear hK K
  try simp only [aP]
  refine rdy 10 ⟨some 63,.call ⟨ .value (.func 78),#[.tmp 62],#[67]⟩,67,_,_,none⟩ rfl (fun K hK=>?_)
  go_simp
  refine (twiceE V347c89 (HM7.out.under HSV347c89.out) gd Hgd.out (by rw [←Ege.out];exact Hge.out)).mono ?_
  rintro e V347c89a ⟨rfl,hbN⟩
  have HSV347c89a:=lH (HSV347c89.out.trans (hbN.mono HSV347c89.out.size))
  have A10V347c89a:Hid (NumOr V347c89a g10 none):=lH (NumOr.under A10V347c89.out hbN)
  clear hbN
  clear HSV347c89 A10V347c89
  go_simp
  refine hK.out _ _ (HSV347c89a.out) (fun hHeld=>?_)
  clear hK K
  try simp only [aP]
  refine rdy 11 ⟨some 64,.call ⟨ .value (.func 55),#[.tmp 57,.tmp 63],#[67,67]⟩,67,_,_,none⟩ rfl (fun K hK=>?_)
  go_simp
  refine (subE V347c89a (HM7.out.under HSV347c89a.out) af ge Haf.out Hge.out (by rw [←EY.out];exact HY.out)).mono ?_
  rintro e V347c89ab ⟨rfl,hbN⟩
  have HSV347c89ab:=lH (HSV347c89a.out.trans (hbN.mono HSV347c89a.out.size))
  have A10V347c89ab:Hid (NumOr V347c89ab g10 none):=lH (NumOr.under A10V347c89a.out hbN)
  clear hbN
  clear HSV347c89a A10V347c89a
  go_simp
  refine hK.out _ _ (HSV347c89ab.out) (fun hHeld=>?_)
  clear hK K
  try simp only [aP]
  refine rdy 13 ⟨none,.store 67 (.tmp 10) (.tmp 64),0,_,_,none⟩ rfl (fun K hK=>?_)
  obtain ⟨zv0,zv1,zv2,zv3,⟨z0,o0⟩,⟨z1,o1⟩,⟨z2,o2⟩,⟨z3,o3⟩⟩:=NumOr.facts A10V347c89ab.out
  obtain ⟨V347c89abd,hN⟩:∃ W,W=((((V347c89ab.setCell ⟨g10,0,none⟩ (.int .u64 (Y0:Int))).setCell ⟨g10,1,none⟩ (.int .u64 (Y1:Int))).setCell ⟨g10,2,none⟩ (.int .u64 (Y2:Int))).setCell ⟨g10,3,none⟩ (.int .u64 (Y3:Int))):=⟨_,rfl⟩
  go_simp
  rw [←hN]
  have A10V347c89abd:Hid (NumOr V347c89abd g10 (some (en Y))):=lH (by rw [hN];exact NumOr.set A10V347c89ab.out HY.out)
  have HSV347c89abd:=lH (by rw [hN];exact below4 HSV347c89ab.out HG10.out _ _ _ _:Below u7.heap.size u7 V347c89abd)
  clear hN z0 o0 z1 o1 z2 o2 z3 o3 zv0 zv1 zv2 zv3
  clear HSV347c89ab A10V347c89ab
  refine hK.out _ _ (HSV347c89abd.out) (fun hHeld=>?_)
  clear hK K
  try simp only [aP]
  refine wpAnyH_done (by kernel_rfl) ?_ _
  refine NoPanic.normal ?_
  rw [HQ8.out]
  exact ⟨rfl,g10,rfl,rfl,HF.out _ HSV347c89abd.out,A10V347c89abd.out,HU0.out⟩
  refine AllReadyH.cons (o:=⟨some 10,.alloc 67,0,_,_,none⟩) rfl (fun K hK=>?_) AllReadyH.nil
  obtain ⟨V34c,hN⟩:∃ W,W=V34.alloc (.cells #[.int .u64 0,.int .u64 0,.int .u64 0,.int .u64 0] 67):=⟨_,rfl⟩
  go_simp
  rw [←hN]
  obtain ⟨g10,hg⟩:∃ g,g=V34.heap.size:=⟨_,rfl⟩
  rw [←hg]
  have A10V34c:Hid (NumOr V34c g10 none):=lH (by rw [hN,hg];exact NumOr.fresh _)
  have HSV34c:=lH (by rw [hN];exact HSV34.out.alloc HSV34.out.size _:Below u7.heap.size u7 V34c)
  have HG10:Hid (u7.heap.size≤g10):=lH (by rw [hg];exact HSV34.out.size)
  clear hN hg
  have HU0:=lH (show w.heap.size+1<g10 from (by have h1:=Holds.lt RB7.out;have h2:=HG10.out;omega))
  clear HSV34
  refine hK.out _ _ (HSV34c.out) (fun hHeld=>?_)
  clear hK K
  try simp only [aP]
  refine rdy 7 ⟨some 60,.call ⟨ .value (.func 56),#[.tmp 58,.tmp 59],#[67,67]⟩,67,_,_,none⟩ rfl (fun K hK=>?_)
  go_simp
  refine (mulE V34c (HM7.out.under HSV34c.out) yy yy Hyy.out Hyy.out (by rw [←Ega.out];exact Hga.out)).mono ?_
  rintro e V34c7 ⟨rfl,hbN⟩
  have HSV34c7:=lH (HSV34c.out.trans (hbN.mono HSV34c.out.size))
  have A10V34c7:Hid (NumOr V34c7 g10 none):=lH (NumOr.under A10V34c.out hbN)
  clear hbN
  clear HSV34c A10V34c
  go_simp
  refine hK.out _ _ (HSV34c7.out) (fun hHeld=>?_)
  clear hK K
  try simp only [aP]
  refine rdy 8 ⟨some 61,.call ⟨ .value (.func 78),#[.tmp 60],#[67]⟩,67,_,_,none⟩ rfl (fun K hK=>?_)
  go_simp
  refine (twiceE V34c7 (HM7.out.under HSV34c7.out) ga Hga.out (by rw [←Egb.out];exact Hgb.out)).mono ?_
  rintro e V34c78 ⟨rfl,hbN⟩
  have HSV34c78:=lH (HSV34c7.out.trans (hbN.mono HSV34c7.out.size))
  have A10V34c78:Hid (NumOr V34c78 g10 none):=lH (NumOr.under A10V34c7.out hbN)
  clear hbN
  clear HSV34c7 A10V34c7
  go_simp
  refine hK.out _ _ (HSV34c78.out) (fun hHeld=>?_)
  clear hK K
  try simp only [aP]
  refine rdy 9 ⟨some 62,.call ⟨ .value (.func 78),#[.tmp 61],#[67]⟩,67,_,_,none⟩ rfl (fun K hK=>?_)
  go_simp
  refine (twiceE V34c78 (HM7.out.under HSV34c78.out) gb Hgb.out (by rw [←Egd.out];exact Hgd.out)).mono ?_
  rintro e V34c789 ⟨rfl,hbN⟩
  have HSV34c789:=lH (HSV34c78.out.trans (hbN.mono HSV34c78.out.size))
  have A10V34c789:Hid (NumOr V34c789 g10 none):=lH (NumOr.under A10V34c78.out hbN)
  clear hbN
  clear HSV34c78 A10V34c78
  go_simp
  refine hK.out _ _ (HSV34c789.out) (fun hHeld=>?_)
  clear hK K
  try simp only [aP]
  refine rdy 10 ⟨some 63,.call ⟨ .value (.func 78),#[.tmp 62],#[67]⟩,67,_,_,none⟩ rfl (fun K hK=>?_)
  go_simp
  refine (twiceE V34c789 (HM7.out.under HSV34c789.out) gd Hgd.out (by rw [←Ege.out];exact Hge.out)).mono ?_
  rintro e V34c789a ⟨rfl,hbN⟩
  have HSV34c789a:=lH (HSV34c789.out.trans (hbN.mono HSV34c789.out.size))
  have A10V34c789a:Hid (NumOr V34c789a g10 none):=lH (NumOr.under A10V34c789.out hbN)
  clear hbN
  clear HSV34c789 A10V34c789
  go_simp
  refine hK.out _ _ (HSV34c789a.out) (fun hHeld=>?_)
  clear hK K
  try simp only [aP]
  refine rdy 11 ⟨some 64,.call ⟨ .value (.func 55),#[.tmp 57,.tmp 63],#[67,67]⟩,67,_,_,none⟩ rfl (fun K hK=>?_)
  go_simp
  refine (subE V34c789a (HM7.out.under HSV34c789a.out) af ge Haf.out Hge.out (by rw [←EY.out];exact HY.out)).mono ?_
  rintro e V34c789ab ⟨rfl,hbN⟩
  have HSV34c789ab:=lH (HSV34c789a.out.trans (hbN.mono HSV34c789a.out.size))
  have A10V34c789ab:Hid (NumOr V34c789ab g10 none):=lH (NumOr.under A10V34c789a.out hbN)
  clear hbN
  clear HSV34c789a A10V34c789a
  go_simp
  refine hK.out _ _ (HSV34c789ab.out) (fun hHeld=>?_)
  clear hK K
  try simp only [aP]
  refine rdy 13 ⟨none,.store 67 (.tmp 10) (.tmp 64),0,_,_,none⟩ rfl (fun K hK=>?_)
  obtain ⟨zv0,zv1,zv2,zv3,⟨z0,o0⟩,⟨z1,o1⟩,⟨z2,o2⟩,⟨z3,o3⟩⟩:=NumOr.facts A10V34c789ab.out
  obtain ⟨V34c789abd,hN⟩:∃ W,W=((((V34c789ab.setCell ⟨g10,0,none⟩ (.int .u64 (Y0:Int))).setCell ⟨g10,1,none⟩ (.int .u64 (Y1:Int))).setCell ⟨g10,2,none⟩ (.int .u64 (Y2:Int))).setCell ⟨g10,3,none⟩ (.int .u64 (Y3:Int))):=⟨_,rfl⟩
  go_simp
  rw [←hN]
  have A10V34c789abd:Hid (NumOr V34c789abd g10 (some (en Y))):=lH (by rw [hN];exact NumOr.set A10V34c789ab.out HY.out)
  have HSV34c789abd:=lH (by rw [hN];exact below4 HSV34c789ab.out HG10.out _ _ _ _:Below u7.heap.size u7 V34c789abd)
  clear hN z0 o0 z1 o1 z2 o2 z3 o3 zv0 zv1 zv2 zv3
  clear HSV34c789ab A10V34c789ab
  refine hK.out _ _ (HSV34c789abd.out) (fun hHeld=>?_)
  clear hK K
  try simp only [aP]
  refine wpAnyH_done (by kernel_rfl) ?_ _
  refine NoPanic.normal ?_
  rw [HQ8.out]
  exact ⟨rfl,g10,rfl,rfl,HF.out _ HSV34c789abd.out,A10V34c789abd.out,HU0.out⟩
  refine AllReadyH.cons (o:=⟨some 10,.alloc 67,0,_,_,none⟩) rfl (fun K hK=>?_) AllReadyH.nil
  obtain ⟨V3c,hN⟩:∃ W,W=V3.alloc (.cells #[.int .u64 0,.int .u64 0,.int .u64 0,.int .u64 0] 67):=⟨_,rfl⟩
  go_simp
  rw [←hN]
  obtain ⟨g10,hg⟩:∃ g,g=V3.heap.size:=⟨_,rfl⟩
  rw [←hg]
  have A10V3c:Hid (NumOr V3c g10 none):=lH (by rw [hN,hg];exact NumOr.fresh _)
  have HSV3c:=lH (by rw [hN];exact HSV3.out.alloc HSV3.out.size _:Below u7.heap.size u7 V3c)
  have HG10:Hid (u7.heap.size≤g10):=lH (by rw [hg];exact HSV3.out.size)
  clear hN hg
  have HU0:=lH (show w.heap.size+1<g10 from (by have h1:=Holds.lt RB7.out;have h2:=HG10.out;omega))
  clear HSV3
  refine hK.out _ _ (HSV3c.out) (fun hHeld=>?_)
  clear hK K
  try simp only [aP]
  refine rdy 4 ⟨some 57,.call ⟨ .value (.func 56),#[.tmp 53,.tmp 56],#[67,67]⟩,67,_,_,none⟩ rfl (fun K hK=>?_)
  go_simp
  refine (mulE V3c (HM7.out.under HSV3c.out) a3 fx Ha3.out Hfx.out (by rw [←Eaf.out];exact Haf.out)).mono ?_
  rintro e V3c4 ⟨rfl,hbN⟩
  have HSV3c4:=lH (HSV3c.out.trans (hbN.mono HSV3c.out.size))
  have A10V3c4:Hid (NumOr V3c4 g10 none):=lH (NumOr.under A10V3c.out hbN)
  clear hbN
  clear HSV3c A10V3c
  go_simp
  refine hK.out _ _ (HSV3c4.out) (fun hHeld=>?_)
  clear hK K
  try simp only [aP]
  refine rdy 7 ⟨some 60,.call ⟨ .value (.func 56),#[.tmp 58,.tmp 59],#[67,67]⟩,67,_,_,none⟩ rfl (fun K hK=>?_)
  go_simp
  refine (mulE V3c4 (HM7.out.under HSV3c4.out) yy yy Hyy.out Hyy.out (by rw [←Ega.out];exact Hga.out)).mono ?_
  rintro e V3c47 ⟨rfl,hbN⟩
  have HSV3c47:=lH (HSV3c4.out.trans (hbN.mono HSV3c4.out.size))
  have A10V3c47:Hid (NumOr V3c47 g10 none):=lH (NumOr.under A10V3c4.out hbN)
  clear hbN
  clear HSV3c4 A10V3c4
  go_simp
  refine hK.out _ _ (HSV3c47.out) (fun hHeld=>?_)
  clear hK K
  try simp only [aP]
  refine rdy 8 ⟨some 61,.call ⟨ .value (.func 78),#[.tmp 60],#[67]⟩,67,_,_,none⟩ rfl (fun K hK=>?_)
  go_simp
  refine (twiceE V3c47 (HM7.out.under HSV3c47.out) ga Hga.out (by rw [←Egb.out];exact Hgb.out)).mono ?_
  rintro e V3c478 ⟨rfl,hbN⟩
  have HSV3c478:=lH (HSV3c47.out.trans (hbN.mono HSV3c47.out.size))
  have A10V3c478:Hid (NumOr V3c478 g10 none):=lH (NumOr.under A10V3c47.out hbN)
  clear hbN
  clear HSV3c47 A10V3c47
  go_simp
  refine hK.out _ _ (HSV3c478.out) (fun hHeld=>?_)
  clear hK K
  try simp only [aP]
  refine rdy 9 ⟨some 62,.call ⟨ .value (.func 78),#[.tmp 61],#[67]⟩,67,_,_,none⟩ rfl (fun K hK=>?_)
  go_simp
  refine (twiceE V3c478 (HM7.out.under HSV3c478.out) gb Hgb.out (by rw [←Egd.out];exact Hgd.out)).mono ?_
  rintro e V3c4789 ⟨rfl,hbN⟩
  have HSV3c4789:=lH (HSV3c478.out.trans (hbN.mono HSV3c478.out.size))
  have A10V3c4789:Hid (NumOr V3c4789 g10 none):=lH (NumOr.under A10V3c478.out hbN)
  clear hbN
  clear HSV3c478 A10V3c478
  go_simp
  refine hK.out _ _ (HSV3c4789.out) (fun hHeld=>?_)
  clear hK K
  try simp only [aP]
  refine rdy 10 ⟨some 63,.call ⟨ .value (.func 78),#[.tmp 62],#[67]⟩,67,_,_,none⟩ rfl (fun K hK=>?_)
  go_simp
  refine (twiceE V3c4789 (HM7.out.under HSV3c4789.out) gd Hgd.out (by rw [←Ege.out];exact Hge.out)).mono ?_
  rintro e V3c4789a ⟨rfl,hbN⟩
  have HSV3c4789a:=lH (HSV3c4789.out.trans (hbN.mono HSV3c4789.out.size))
  have A10V3c4789a:Hid (NumOr V3c4789a g10 none):=lH (NumOr.under A10V3c4789.out hbN)
  clear hbN
  clear HSV3c4789 A10V3c4789
  go_simp
  refine hK.out _ _ (HSV3c4789a.out) (fun hHeld=>?_)
  clear hK K
  try simp only [aP]
  refine rdy 11 ⟨some 64,.call ⟨ .value (.func 55),#[.tmp 57,.tmp 63],#[67,67]⟩,67,_,_,none⟩ rfl (fun K hK=>?_)
  go_simp
  refine (subE V3c4789a (HM7.out.under HSV3c4789a.out) af ge Haf.out Hge.out (by rw [←EY.out];exact HY.out)).mono ?_
  rintro e V3c4789ab ⟨rfl,hbN⟩
  have HSV3c4789ab:=lH (HSV3c4789a.out.trans (hbN.mono HSV3c4789a.out.size))
  have A10V3c4789ab:Hid (NumOr V3c4789ab g10 none):=lH (NumOr.under A10V3c4789a.out hbN)
  clear hbN
  clear HSV3c4789a A10V3c4789a
  go_simp
  refine hK.out _ _ (HSV3c4789ab.out) (fun hHeld=>?_)
  clear hK K
  try simp only [aP]
  refine rdy 13 ⟨none,.store 67 (.tmp 10) (.tmp 64),0,_,_,none⟩ rfl (fun K hK=>?_)
  obtain ⟨zv0,zv1,zv2,zv3,⟨z0,o0⟩,⟨z1,o1⟩,⟨z2,o2⟩,⟨z3,o3⟩⟩:=NumOr.facts A10V3c4789ab.out
  obtain ⟨V3c4789abd,hN⟩:∃ W,W=((((V3c4789ab.setCell ⟨g10,0,none⟩ (.int .u64 (Y0:Int))).setCell ⟨g10,1,none⟩ (.int .u64 (Y1:Int))).setCell ⟨g10,2,none⟩ (.int .u64 (Y2:Int))).setCell ⟨g10,3,none⟩ (.int .u64 (Y3:Int))):=⟨_,rfl⟩
  go_simp
  rw [←hN]
  have A10V3c4789abd:Hid (NumOr V3c4789abd g10 (some (en Y))):=lH (by rw [hN];exact NumOr.set A10V3c4789ab.out HY.out)
  have HSV3c4789abd:=lH (by rw [hN];exact below4 HSV3c4789ab.out HG10.out _ _ _ _:Below u7.heap.size u7 V3c4789abd)
  clear hN z0 o0 z1 o1 z2 o2 z3 o3 zv0 zv1 zv2 zv3
  clear HSV3c4789ab A10V3c4789ab
  refine hK.out _ _ (HSV3c4789abd.out) (fun hHeld=>?_)
  clear hK K
  try simp only [aP]
  refine wpAnyH_done (by kernel_rfl) ?_ _
  refine NoPanic.normal ?_
  rw [HQ8.out]
  exact ⟨rfl,g10,rfl,rfl,HF.out _ HSV3c4789abd.out,A10V3c4789abd.out,HU0.out⟩
  refine AllReadyH.cons (o:=⟨some 10,.alloc 67,0,_,_,none⟩) rfl (fun K hK=>?_) AllReadyH.nil
  obtain ⟨Vc,hN⟩:∃ W,W=V.alloc (.cells #[.int .u64 0,.int .u64 0,.int .u64 0,.int .u64 0] 67):=⟨_,rfl⟩
  go_simp
  rw [←hN]
  obtain ⟨g10,hg⟩:∃ g,g=V.heap.size:=⟨_,rfl⟩
  rw [←hg]
  have A10Vc:Hid (NumOr Vc g10 none):=lH (by rw [hN,hg];exact NumOr.fresh _)
  have HSVc:=lH (by rw [hN];exact HSV.out.alloc HSV.out.size _:Below u7.heap.size u7 Vc)
  have HG10:Hid (u7.heap.size≤g10):=lH (by rw [hg];exact HSV.out.size)
  clear hN hg
  have HU0:=lH (show w.heap.size+1<g10 from (by have h1:=Holds.lt RB7.out;have h2:=HG10.out;omega))
  clear HSV
  refine hK.out _ _ (HSVc.out) (fun hHeld=>?_)
  clear hK K
  try simp only [aP]
  refine rdy 3 ⟨some 56,.call ⟨ .value (.func 55),#[.tmp 54,.tmp 55],#[67,67]⟩,67,_,_,none⟩ rfl (fun K hK=>?_)
  go_simp
  refine (subE Vc (HM7.out.under HSVc.out) fo X Hfo.out HX.out (by rw [←Efx.out];exact Hfx.out)).mono ?_
  rintro e Vc3 ⟨rfl,hbN⟩
  have HSVc3:=lH (HSVc.out.trans (hbN.mono HSVc.out.size))
  have A10Vc3:Hid (NumOr Vc3 g10 none):=lH (NumOr.under A10Vc.out hbN)
  clear hbN
  clear HSVc A10Vc
  go_simp
  refine hK.out _ _ (HSVc3.out) (fun hHeld=>?_)
  clear hK K
  try simp only [aP]
  refine rdy 4 ⟨some 57,.call ⟨ .value (.func 56),#[.tmp 53,.tmp 56],#[67,67]⟩,67,_,_,none⟩ rfl (fun K hK=>?_)
  go_simp
  refine (mulE Vc3 (HM7.out.under HSVc3.out) a3 fx Ha3.out Hfx.out (by rw [←Eaf.out];exact Haf.out)).mono ?_
  rintro e Vc34 ⟨rfl,hbN⟩
  have HSVc34:=lH (HSVc3.out.trans (hbN.mono HSVc3.out.size))
  have A10Vc34:Hid (NumOr Vc34 g10 none):=lH (NumOr.under A10Vc3.out hbN)
  clear hbN
  clear HSVc3 A10Vc3
  go_simp
  refine hK.out _ _ (HSVc34.out) (fun hHeld=>?_)
  clear hK K
  try simp only [aP]
  refine rdy 7 ⟨some 60,.call ⟨ .value (.func 56),#[.tmp 58,.tmp 59],#[67,67]⟩,67,_,_,none⟩ rfl (fun K hK=>?_)
  go_simp
  refine (mulE Vc34 (HM7.out.under HSVc34.out) yy yy Hyy.out Hyy.out (by rw [←Ega.out];exact Hga.out)).mono ?_
  rintro e Vc347 ⟨rfl,hbN⟩
  have HSVc347:=lH (HSVc34.out.trans (hbN.mono HSVc34.out.size))
  have A10Vc347:Hid (NumOr Vc347 g10 none):=lH (NumOr.under A10Vc34.out hbN)
  clear hbN
  clear HSVc34 A10Vc34
  go_simp
  refine hK.out _ _ (HSVc347.out) (fun hHeld=>?_)
  clear hK K
  try simp only [aP]
  refine rdy 8 ⟨some 61,.call ⟨ .value (.func 78),#[.tmp 60],#[67]⟩,67,_,_,none⟩ rfl (fun K hK=>?_)
  go_simp
  refine (twiceE Vc347 (HM7.out.under HSVc347.out) ga Hga.out (by rw [←Egb.out];exact Hgb.out)).mono ?_
  rintro e Vc3478 ⟨rfl,hbN⟩
  have HSVc3478:=lH (HSVc347.out.trans (hbN.mono HSVc347.out.size))
  have A10Vc3478:Hid (NumOr Vc3478 g10 none):=lH (NumOr.under A10Vc347.out hbN)
  clear hbN
  clear HSVc347 A10Vc347
  go_simp
  refine hK.out _ _ (HSVc3478.out) (fun hHeld=>?_)
  clear hK K
  try simp only [aP]
  refine rdy 9 ⟨some 62,.call ⟨ .value (.func 78),#[.tmp 61],#[67]⟩,67,_,_,none⟩ rfl (fun K hK=>?_)
  go_simp
  refine (twiceE Vc3478 (HM7.out.under HSVc3478.out) gb Hgb.out (by rw [←Egd.out];exact Hgd.out)).mono ?_
  rintro e Vc34789 ⟨rfl,hbN⟩
  have HSVc34789:=lH (HSVc3478.out.trans (hbN.mono HSVc3478.out.size))
  have A10Vc34789:Hid (NumOr Vc34789 g10 none):=lH (NumOr.under A10Vc3478.out hbN)
  clear hbN
  clear HSVc3478 A10Vc3478
  go_simp
  refine hK.out _ _ (HSVc34789.out) (fun hHeld=>?_)
  clear hK K
  try simp only [aP]
  refine rdy 10 ⟨some 63,.call ⟨ .value (.func 78),#[.tmp 62],#[67]⟩,67,_,_,none⟩ rfl (fun K hK=>?_)
  go_simp
  refine (twiceE Vc34789 (HM7.out.under HSVc34789.out) gd Hgd.out (by rw [←Ege.out];exact Hge.out)).mono ?_
  rintro e Vc34789a ⟨rfl,hbN⟩
  have HSVc34789a:=lH (HSVc34789.out.trans (hbN.mono HSVc34789.out.size))
  have A10Vc34789a:Hid (NumOr Vc34789a g10 none):=lH (NumOr.under A10Vc34789.out hbN)
  clear hbN
  clear HSVc34789 A10Vc34789
  go_simp
  refine hK.out _ _ (HSVc34789a.out) (fun hHeld=>?_)
  clear hK K
  try simp only [aP]
  refine rdy 11 ⟨some 64,.call ⟨ .value (.func 55),#[.tmp 57,.tmp 63],#[67,67]⟩,67,_,_,none⟩ rfl (fun K hK=>?_)
  go_simp
  refine (subE Vc34789a (HM7.out.under HSVc34789a.out) af ge Haf.out Hge.out (by rw [←EY.out];exact HY.out)).mono ?_
  rintro e Vc34789ab ⟨rfl,hbN⟩
  have HSVc34789ab:=lH (HSVc34789a.out.trans (hbN.mono HSVc34789a.out.size))
  have A10Vc34789ab:Hid (NumOr Vc34789ab g10 none):=lH (NumOr.under A10Vc34789a.out hbN)
  clear hbN
  clear HSVc34789a A10Vc34789a
  go_simp
  refine hK.out _ _ (HSVc34789ab.out) (fun hHeld=>?_)
  clear hK K
  try simp only [aP]
  refine rdy 13 ⟨none,.store 67 (.tmp 10) (.tmp 64),0,_,_,none⟩ rfl (fun K hK=>?_)
  obtain ⟨zv0,zv1,zv2,zv3,⟨z0,o0⟩,⟨z1,o1⟩,⟨z2,o2⟩,⟨z3,o3⟩⟩:=NumOr.facts A10Vc34789ab.out
  obtain ⟨Vc34789abd,hN⟩:∃ W,W=((((Vc34789ab.setCell ⟨g10,0,none⟩ (.int .u64 (Y0:Int))).setCell ⟨g10,1,none⟩ (.int .u64 (Y1:Int))).setCell ⟨g10,2,none⟩ (.int .u64 (Y2:Int))).setCell ⟨g10,3,none⟩ (.int .u64 (Y3:Int))):=⟨_,rfl⟩
  go_simp
  rw [←hN]
  have A10Vc34789abd:Hid (NumOr Vc34789abd g10 (some (en Y))):=lH (by rw [hN];exact NumOr.set A10Vc34789ab.out HY.out)
  have HSVc34789abd:=lH (by rw [hN];exact below4 HSVc34789ab.out HG10.out _ _ _ _:Below u7.heap.size u7 Vc34789abd)
  clear hN z0 o0 z1 o1 z2 o2 z3 o3 zv0 zv1 zv2 zv3
  clear HSVc34789ab A10Vc34789ab
  refine hK.out _ _ (HSVc34789abd.out) (fun hHeld=>?_)
  clear hK K
  try simp only [aP]
  refine wpAnyH_done (by kernel_rfl) ?_ _
  refine NoPanic.normal ?_
  rw [HQ8.out]
  exact ⟨rfl,g10,rfl,rfl,HF.out _ HSVc34789abd.out,A10Vc34789abd.out,HU0.out⟩
 rintro e a u8 hq
 rw [HQ8.out] at hq
 obtain ⟨rfl,g10,htm,hdf,hst⟩:=hq
 have ST8:=lH hst
 clear hst HQ8 ST7
 obtain ⟨tm,df⟩:=a
 dsimp only at htm hdf
 subst hdf
 obtain ⟨U,hU⟩:∃ U:Nat→Value,∀ i,tm.getD i undef=U i:=⟨_,fun _=>rfl⟩
 simp only [tG,hU] at htm
 clear hU
 subst htm
 go_step
 go_step
 (repeat (first | (apply wp_seq_k;intro _ _) | apply wp_block))
 have RB8:=lH (ST8.out.1.1.1.1.2.1)
 have HB8:=lH (ST8.out.1.1.1.1.2.2.1)
 have L3_8:=lH (ST8.out.1.1.1.1.2.2.2.2.1)
 have L4_8:=lH (ST8.out.1.1.1.1.2.2.2.2.2.1)
 have NB_3:=lH (ST8.out.1.1.1.1.2.2.2.2.2.2.1)
 have NB_4:=lH (ST8.out.1.1.1.1.2.2.2.2.2.2.2.1)
 have L8_8:=lH (ST8.out.1.1.2.1)
 have NB_8:=lH (ST8.out.1.1.2.2)
 have L9_8:=lH (ST8.out.1.2.1)
 have NB_9:=lH (ST8.out.1.2.2)
 have L10_8:=lH (ST8.out.2.1)
 have NB_10:=lH (ST8.out.2.2)
 have HMW:=lH (FV.out.1)
 have Eza:=lH (FV.out.2.2.2.2.2.2.2.2.2.2.2.2.2.2.2.2.2.2.2.2.2.2.2.2.2.1)
 have Ezb:=lH (FV.out.2.2.2.2.2.2.2.2.2.2.2.2.2.2.2.2.2.2.2.2.2.2.2.2.2.2.1)
 have EZ:=lH (FV.out.2.2.2.2.2.2.2.2.2.2.2.2.2.2.2.2.2.2.2.2.2.2.2.2.2.2.2.1)
 have Hzz:=lH (FV.out.2.2.2.2.2.2.2.2.2.2.2.2.2.2.2.2.2.2.2.2.2.2.2.2.2.2.2.2.1)
 have Hyy:=lH (FV.out.2.2.2.2.2.2.2.2.2.2.2.2.2.2.2.2.2.2.2.2.2.2.2.2.2.2.2.2.2.1)
 have Hyz:=lH (FV.out.2.2.2.2.2.2.2.2.2.2.2.2.2.2.2.2.2.2.2.2.2.2.2.2.2.2.2.2.2.2.2.2.2.2.2.2.2.2.1)
 have HX:=lH (FV.out.2.2.2.2.2.2.2.2.2.2.2.2.2.2.2.2.2.2.2.2.2.2.2.2.2.2.2.2.2.2.2.2.2.2.2.2.2.2.2.2.2.1)
 have HY:=lH (FV.out.2.2.2.2.2.2.2.2.2.2.2.2.2.2.2.2.2.2.2.2.2.2.2.2.2.2.2.2.2.2.2.2.2.2.2.2.2.2.2.2.2.2.2.2.2.2.2.2.1)
 have Hza:=lH (FV.out.2.2.2.2.2.2.2.2.2.2.2.2.2.2.2.2.2.2.2.2.2.2.2.2.2.2.2.2.2.2.2.2.2.2.2.2.2.2.2.2.2.2.2.2.2.2.2.2.2.1)
 have Hzb:=lH (FV.out.2.2.2.2.2.2.2.2.2.2.2.2.2.2.2.2.2.2.2.2.2.2.2.2.2.2.2.2.2.2.2.2.2.2.2.2.2.2.2.2.2.2.2.2.2.2.2.2.2.2.1)
 have HZ:=lH (FV.out.2.2.2.2.2.2.2.2.2.2.2.2.2.2.2.2.2.2.2.2.2.2.2.2.2.2.2.2.2.2.2.2.2.2.2.2.2.2.2.2.2.2.2.2.2.2.2.2.2.2.2)
 clear ST8 FV
 refine wp_region_noPanic ?_
 refine wp_region_held_drew (S:=fun W=>NumOr W g10 (some (en Y))∧NumOr W g3 (some (en zz))∧NumOr W g4 (some (en yy))∧NumOr W g8 (some (en yz))∧NumOr W g9 (some (en X))∧Below w.heap.size w W) (by kernel_rfl) (⟨NumOr.drew L10_8.out,NumOr.drew L3_8.out,NumOr.drew L4_8.out,NumOr.drew L8_8.out,NumOr.drew L9_8.out,HB8.out.drew⟩) (fun hHeld=>?_)
 obtain ⟨V,hV⟩:∃ W,W=u8.drew:=⟨_,rfl⟩
 rw [←hV]
 have HSV:Hid ((fun W=>NumOr W g10 (some (en Y))∧NumOr W g3 (some (en zz))∧NumOr W g4 (some (en yy))∧NumOr W g8 (some (en yz))∧NumOr W g9 (some (en X))∧Below w.heap.size w W) V):=lH (by rw [hV];exact ⟨NumOr.drew L10_8.out,NumOr.drew L3_8.out,NumOr.drew L4_8.out,NumOr.drew L8_8.out,NumOr.drew L9_8.out,HB8.out.drew⟩)
 have HRV:Hid (Holds V (w.heap.size+1) 69 #[.int .u64 0,.int .u64 0,.int .u64 0,.int .u64 0,.int .u64 0,.int .u64 0,.int .u64 0,.int .u64 0,.int .u64 0,.int .u64 0,.int .u64 0,.int .u64 0]):=lH (by rw [hV];exact RB8.out)
 replace hHeld:(fun W=>NumOr W g10 (some (en Y))∧NumOr W g3 (some (en zz))∧NumOr W g4 (some (en yy))∧NumOr W g8 (some (en yz))∧NumOr W g9 (some (en X))∧Below w.heap.size w W) V:=HSV.out
 clear hV
 refine tk 0 ⟨some 65,.load 67 (.tmp 9),67,_,_,none⟩ ?_ rfl ?_ hHeld ?_
 rotate_left 1
 ·(intro W hW;have hBC:=hW.2.2.2.2.1.cells HX.out;obtain ⟨q0,q1,q2,q3⟩:=hBC;(try dsimp only at hW);go_simp;try with_reducible rfl)
 try simp only [aP]
 refine tk 1 ⟨some 66,.load 67 (.tmp 10),67,_,_,none⟩ ?_ rfl ?_ hHeld ?_
 rotate_left 1
 ·(intro W hW;have hBC:=hW.1.cells HY.out;obtain ⟨q0,q1,q2,q3⟩:=hBC;(try dsimp only at hW);go_simp;try with_reducible rfl)
 try simp only [aP]
 refine tk 2 ⟨some 67,.load 67 (.tmp 8),67,_,_,none⟩ ?_ rfl ?_ hHeld ?_
 rotate_left 1
 ·(intro W hW;have hBC:=hW.2.2.2.1.cells Hyz.out;obtain ⟨q0,q1,q2,q3⟩:=hBC;(try dsimp only at hW);go_simp;try with_reducible rfl)
 try simp only [aP]
 refine tk 3 ⟨some 68,.load 67 (.tmp 8),67,_,_,none⟩ ?_ rfl ?_ hHeld ?_
 rotate_left 1
 ·(intro W hW;have hBC:=hW.2.2.2.1.cells Hyz.out;obtain ⟨q0,q1,q2,q3⟩:=hBC;(try dsimp only at hW);go_simp;try with_reducible rfl)
 try simp only [aP]
 refine tk 5 ⟨some 70,.load 67 (.tmp 4),67,_,_,none⟩ ?_ rfl ?_ hHeld ?_
 rotate_left 1
 ·(intro W hW;have hBC:=hW.2.2.1.cells Hyy.out;obtain ⟨q0,q1,q2,q3⟩:=hBC;(try dsimp only at hW);go_simp;try with_reducible rfl)
 try simp only [aP]
 refine tk 7 ⟨some 72,.load 67 (.tmp 3),67,_,_,none⟩ ?_ rfl ?_ hHeld ?_
 rotate_left 1
 ·(intro W hW;have hBC:=hW.2.1.cells Hzz.out;obtain ⟨q0,q1,q2,q3⟩:=hBC;(try dsimp only at hW);go_simp;try with_reducible rfl)
 try simp only [aP]
 refine rdy 4 ⟨some 69,.call ⟨ .value (.func 56),#[.tmp 67,.tmp 68],#[67,67]⟩,67,_,_,none⟩ rfl (fun K hK=>?_)
 go_simp
 refine (mulE V (HMW.out.under HSV.out.2.2.2.2.2) yz yz Hyz.out Hyz.out (by rw [←Eza.out];exact Hza.out)).mono ?_
 rintro e V1 ⟨rfl,hbN⟩
 have HSV1:Hid ((fun W=>NumOr W g10 (some (en Y))∧NumOr W g3 (some (en zz))∧NumOr W g4 (some (en yy))∧NumOr W g8 (some (en yz))∧NumOr W g9 (some (en X))∧Below w.heap.size w W) V1):=lH ⟨NumOr.under HSV.out.1 hbN,NumOr.under HSV.out.2.1 hbN,NumOr.under HSV.out.2.2.1 hbN,NumOr.under HSV.out.2.2.2.1 hbN,NumOr.under HSV.out.2.2.2.2.1 hbN,HSV.out.2.2.2.2.2.trans (hbN.mono HSV.out.2.2.2.2.2.size)⟩
 have HRV1:=lH (HRV.out.under hbN (Holds.lt HRV.out))
 clear hbN
 go_simp
 refine hK.out _ _ (HSV1.out) (fun hHeld=>?_)
 clear hK K
 try simp only [aP]
 refine rdy 6 ⟨some 71,.call ⟨ .value (.func 55),#[.tmp 69,.tmp 70],#[67,67]⟩,67,_,_,none⟩ rfl (fun K hK=>?_)
 go_simp
 refine (subE V1 (HMW.out.under HSV1.out.2.2.2.2.2) za yy Hza.out Hyy.out (by rw [←Ezb.out];exact Hzb.out)).mono ?_
 rintro e V2 ⟨rfl,hbN⟩
 have HSV2:Hid ((fun W=>NumOr W g10 (some (en Y))∧NumOr W g3 (some (en zz))∧NumOr W g4 (some (en yy))∧NumOr W g8 (some (en yz))∧NumOr W g9 (some (en X))∧Below w.heap.size w W) V2):=lH ⟨NumOr.under HSV1.out.1 hbN,NumOr.under HSV1.out.2.1 hbN,NumOr.under HSV1.out.2.2.1 hbN,NumOr.under HSV1.out.2.2.2.1 hbN,NumOr.under HSV1.out.2.2.2.2.1 hbN,HSV1.out.2.2.2.2.2.trans (hbN.mono HSV1.out.2.2.2.2.2.size)⟩
 have HRV2:=lH (HRV1.out.under hbN (Holds.lt HRV1.out))
 clear hbN
 go_simp
 refine hK.out _ _ (HSV2.out) (fun hHeld=>?_)
 clear hK K
 try simp only [aP]
 refine rdy 8 ⟨some 73,.call ⟨ .value (.func 55),#[.tmp 71,.tmp 72],#[67,67]⟩,67,_,_,none⟩ rfl (fun K hK=>?_)
 go_simp
 refine (subE V2 (HMW.out.under HSV2.out.2.2.2.2.2) zb zz Hzb.out Hzz.out (by rw [←EZ.out];exact HZ.out)).mono ?_
 rintro e V3 ⟨rfl,hbN⟩
 have HSV3:Hid ((fun W=>NumOr W g10 (some (en Y))∧NumOr W g3 (some (en zz))∧NumOr W g4 (some (en yy))∧NumOr W g8 (some (en yz))∧NumOr W g9 (some (en X))∧Below w.heap.size w W) V3):=lH ⟨NumOr.under HSV2.out.1 hbN,NumOr.under HSV2.out.2.1 hbN,NumOr.under HSV2.out.2.2.1 hbN,NumOr.under HSV2.out.2.2.2.1 hbN,NumOr.under HSV2.out.2.2.2.2.1 hbN,HSV2.out.2.2.2.2.2.trans (hbN.mono HSV2.out.2.2.2.2.2.size)⟩
 have HRV3:=lH (HRV2.out.under hbN (Holds.lt HRV2.out))
 clear hbN
 go_simp
 refine hK.out _ _ (HSV3.out) (fun hHeld=>?_)
 clear hK K
 try simp only [aP]
 refine tk 9 ⟨some 74,.build 69 #[(0,.tmp 65),(1,.tmp 66),(2,.tmp 73)],69,_,_,none⟩ ?_ rfl ?_ hHeld ?_
 rotate_left 1
 ·(intro W hW;(try dsimp only at hW);go_simp;try with_reducible rfl)
 try simp only [aP]
 refine rdy 10 ⟨none,.store 69 (.tmp 2) (.tmp 74),0,_,_,none⟩ rfl (fun K hK=>?_)
 have zc0:=HRV3.out.cell 0
 have oc0:=HRV3.out.open_ 0
 have zc1:=HRV3.out.cell 1
 have oc1:=HRV3.out.open_ 1
 have zc2:=HRV3.out.cell 2
 have oc2:=HRV3.out.open_ 2
 have zc3:=HRV3.out.cell 3
 have oc3:=HRV3.out.open_ 3
 have zc4:=HRV3.out.cell 4
 have oc4:=HRV3.out.open_ 4
 have zc5:=HRV3.out.cell 5
 have oc5:=HRV3.out.open_ 5
 have zc6:=HRV3.out.cell 6
 have oc6:=HRV3.out.open_ 6
 have zc7:=HRV3.out.cell 7
 have oc7:=HRV3.out.open_ 7
 have zc8:=HRV3.out.cell 8
 have oc8:=HRV3.out.open_ 8
 have zc9:=HRV3.out.cell 9
 have oc9:=HRV3.out.open_ 9
 have zc10:=HRV3.out.cell 10
 have oc10:=HRV3.out.open_ 10
 have zc11:=HRV3.out.cell 11
 have oc11:=HRV3.out.open_ 11
 obtain ⟨VL,hN⟩:∃ W,W=((((((((((((V3.setCell ⟨w.heap.size+1,0,none⟩ (.int .u64 (X0:Int))).setCell ⟨w.heap.size+1,1,none⟩ (.int .u64 (X1:Int))).setCell ⟨w.heap.size+1,2,none⟩ (.int .u64 (X2:Int))).setCell ⟨w.heap.size+1,3,none⟩ (.int .u64 (X3:Int))).setCell ⟨w.heap.size+1,4,none⟩ (.int .u64 (Y0:Int))).setCell ⟨w.heap.size+1,5,none⟩ (.int .u64 (Y1:Int))).setCell ⟨w.heap.size+1,6,none⟩ (.int .u64 (Y2:Int))).setCell ⟨w.heap.size+1,7,none⟩ (.int .u64 (Y3:Int))).setCell ⟨w.heap.size+1,8,none⟩ (.int .u64 (Z0:Int))).setCell ⟨w.heap.size+1,9,none⟩ (.int .u64 (Z1:Int))).setCell ⟨w.heap.size+1,10,none⟩ (.int .u64 (Z2:Int))).setCell ⟨w.heap.size+1,11,none⟩ (.int .u64 (Z3:Int))):=⟨_,rfl⟩
 go_simp
 rw [←hN]
 have HRL:Hid (Holds VL (w.heap.size+1) 69 #[.int .u64 (X0:Int),.int .u64 (X1:Int),.int .u64 (X2:Int),.int .u64 (X3:Int),.int .u64 (Y0:Int),.int .u64 (Y1:Int),.int .u64 (Y2:Int),.int .u64 (Y3:Int),.int .u64 (Z0:Int),.int .u64 (Z1:Int),.int .u64 (Z2:Int),.int .u64 (Z3:Int)]):=lH (by rw [hN];exact set12 HRV3.out _ _ _ _ _ _ _ _ _ _ _ _)
 have HBL:Hid (Below w.heap.size w VL):=lH (by rw [hN];exact below12 HSV3.out.2.2.2.2.2 (by omega) _ _ _ _ _ _ _ _ _ _ _ _)
 have HSL:Hid ((fun W=>NumOr W g10 (some (en Y))∧NumOr W g3 (some (en zz))∧NumOr W g4 (some (en yy))∧NumOr W g8 (some (en yz))∧NumOr W g9 (some (en X))∧Below w.heap.size w W) VL):=lH ⟨by rw [hN];exact holds_aside12 HSV3.out.1 (k:=w.heap.size+1) (by have:=NB_10.out;omega) _ _ _ _ _ _ _ _ _ _ _ _,by rw [hN];exact holds_aside12 HSV3.out.2.1 (k:=w.heap.size+1) (by have:=NB_3.out;omega) _ _ _ _ _ _ _ _ _ _ _ _,by rw [hN];exact holds_aside12 HSV3.out.2.2.1 (k:=w.heap.size+1) (by have:=NB_4.out;omega) _ _ _ _ _ _ _ _ _ _ _ _,by rw [hN];exact holds_aside12 HSV3.out.2.2.2.1 (k:=w.heap.size+1) (by have:=NB_8.out;omega) _ _ _ _ _ _ _ _ _ _ _ _,by rw [hN];exact holds_aside12 HSV3.out.2.2.2.2.1 (k:=w.heap.size+1) (by have:=NB_9.out;omega) _ _ _ _ _ _ _ _ _ _ _ _,HBL.out⟩
 clear hN zc0 oc0 zc1 oc1 zc2 oc2 zc3 oc3 zc4 oc4 zc5 oc5 zc6 oc6 zc7 oc7 zc8 oc8 zc9 oc9 zc10 oc10 zc11 oc11
 refine hK.out _ _ (HSL.out) (fun hHeld=>?_)
 clear hK K
 try simp only [aP]
 refine wpAnyH_done (by kernel_rfl) ?_ _
 refine NoPanic.normal ?_
 go_wp2_with fail
 exact ret_wd (g:=w.heap.size+1) rfl rfl HRL.out rfl ⟨rfl,HBL.out⟩
end Go.Proofs.YtflfdglpljodbaaDoor
