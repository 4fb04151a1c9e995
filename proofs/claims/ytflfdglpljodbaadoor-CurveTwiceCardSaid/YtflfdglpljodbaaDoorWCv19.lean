/-
  The sum of a wide point and one that is not wide.
-/
import Derived.Test.YtflfdglpljodbaaDoorWCv18
set_option maxRecDepth 100000
set_option maxHeartbeats 80000000
namespace Go.Proofs.YtflfdglpljodbaaDoor
open Go.RowKit
set_option linter.unusedVariables false
set_option linter.unusedSimpArgs false
theorem plusInf (w:World) (Ax Ay:Option Addr) (nx cx ny cy:Nat) {x0 x1 x2 x3 y0 y1 y2 y3 z0 z1 z2 z3:Nat} :
  Calls Tryd.prog 42 #[.agg #[.int .u64 (x0:Int),.int .u64 (x1:Int),.int .u64 (x2:Int),.int .u64 (x3:Int),.int .u64 (y0:Int),.int .u64 (y1:Int),.int .u64 (y2:Int),.int .u64 (y3:Int),.int .u64 (z0:Int),.int .u64 (z1:Int),.int .u64 (z2:Int),.int .u64 (z3:Int)],.agg #[.slice Ax nx cx,.slice Ay ny cy,.bool true]] w fun e w'=>e = .returned (.agg #[.int .u64 (x0:Int),.int .u64 (x1:Int),.int .u64 (x2:Int),.int .u64 (x3:Int),.int .u64 (y0:Int),.int .u64 (y1:Int),.int .u64 (y2:Int),.int .u64 (y3:Int),.int .u64 (z0:Int),.int .u64 (z1:Int),.int .u64 (z2:Int),.int .u64 (z3:Int)])∧Below w.heap.size w w':=by
 go_enter Tryd.func42,Tryd.ntmps42
 go_wp2_with fail
 have e:((w.alloc (.cells #[.int .u64 (x0:Int),.int .u64 (x1:Int),.int .u64 (x2:Int),.int .u64 (x3:Int),.int .u64 (y0:Int),.int .u64 (y1:Int),.int .u64 (y2:Int),.int .u64 (y3:Int),.int .u64 (z0:Int),.int .u64 (z1:Int),.int .u64 (z2:Int),.int .u64 (z3:Int)] 69)).alloc (.cells #[.slice Ax nx cx,.slice Ay ny cy,.bool true] 26)).heap.size=w.heap.size+1+1:=by simp
 have hR:=Holds.fresh ((w.alloc (.cells #[.int .u64 (x0:Int),.int .u64 (x1:Int),.int .u64 (x2:Int),.int .u64 (x3:Int),.int .u64 (y0:Int),.int .u64 (y1:Int),.int .u64 (y2:Int),.int .u64 (y3:Int),.int .u64 (z0:Int),.int .u64 (z1:Int),.int .u64 (z2:Int),.int .u64 (z3:Int)] 69)).alloc (.cells #[.slice Ax nx cx,.slice Ay ny cy,.bool true] 26)) 69 #[.int .u64 (x0:Int),.int .u64 (x1:Int),.int .u64 (x2:Int),.int .u64 (x3:Int),.int .u64 (y0:Int),.int .u64 (y1:Int),.int .u64 (y2:Int),.int .u64 (y3:Int),.int .u64 (z0:Int),.int .u64 (z1:Int),.int .u64 (z2:Int),.int .u64 (z3:Int)]
 rw [e] at hR
 exact ret_wd (g:=w.heap.size+1+1) rfl rfl hR rfl ⟨rfl,(((Below.refl _ _).alloc (Nat.le_refl _) _).alloc (by simp) _).alloc (by simp;omega) _⟩
theorem plusE (w:World) (hm:CMet w) (j:Luc.Jc) (pu pv:Luc.F) (Ax Ay:Option Addr) (cx cy:Nat) (lx ly:List Nat) (hrx:Rd .u32 w w.heap.size Ax cx lx) (hry:Rd .u32 w w.heap.size Ay cy ly) (hdx:Dg lx) (hdy:Dg ly) (hlx:lx.length≤8) (hly:ly.length≤8) (hvx:val lx=pu.val) (hvy:val ly=pv.val)
  {x0 x1 x2 x3 y0 y1 y2 y3 z0 z1 z2 z3 X0 X1 X2 X3 Y0 Y1 Y2 Y3 Z0 Z1 Z2 Z3:Nat} (hx:nm (en j.x)=[x0,x1,x2,x3]) (hy:nm (en j.y)=[y0,y1,y2,y3]) (hz:nm (en j.z)=[z0,z1,z2,z3])
  (hX:nm (en (Luc.pls j pu pv).x)=[X0,X1,X2,X3]) (hY:nm (en (Luc.pls j pu pv).y)=[Y0,Y1,Y2,Y3]) (hZ:nm (en (Luc.pls j pu pv).z)=[Z0,Z1,Z2,Z3]) :
  Calls Tryd.prog 42 #[.agg #[.int .u64 (x0:Int),.int .u64 (x1:Int),.int .u64 (x2:Int),.int .u64 (x3:Int),.int .u64 (y0:Int),.int .u64 (y1:Int),.int .u64 (y2:Int),.int .u64 (y3:Int),.int .u64 (z0:Int),.int .u64 (z1:Int),.int .u64 (z2:Int),.int .u64 (z3:Int)],.agg #[.slice Ax lx.length cx,.slice Ay ly.length cy,.bool false]] w fun e w'=>e = .returned (.agg #[.int .u64 (X0:Int),.int .u64 (X1:Int),.int .u64 (X2:Int),.int .u64 (X3:Int),.int .u64 (Y0:Int),.int .u64 (Y1:Int),.int .u64 (Y2:Int),.int .u64 (Y3:Int),.int .u64 (Z0:Int),.int .u64 (Z1:Int),.int .u64 (Z2:Int),.int .u64 (Z3:Int)])∧Below w.heap.size w w':=by
 have FV:Hid ((CMet w)∧(Dg lx)∧(Dg ly)∧(lx.length≤8)∧(ly.length≤8)∧(val lx=pu.val)∧(val ly=pv.val)∧(nm (en j.x)=[x0,x1,x2,x3])∧(nm (en j.y)=[y0,y1,y2,y3])∧(nm (en j.z)=[z0,z1,z2,z3])∧(nm (en (Luc.pls j pu pv).x)=[X0,X1,X2,X3])∧(nm (en (Luc.pls j pu pv).y)=[Y0,Y1,Y2,Y3])∧(nm (en (Luc.pls j pu pv).z)=[Z0,Z1,Z2,Z3])):=lH ⟨hm,hdx,hdy,hlx,hly,hvx,hvy,hx,hy,hz,hX,hY,hZ⟩
 obtain ⟨w1,hw1⟩:∃ W,W=w.alloc (.cells #[.int .u64 (x0:Int),.int .u64 (x1:Int),.int .u64 (x2:Int),.int .u64 (x3:Int),.int .u64 (y0:Int),.int .u64 (y1:Int),.int .u64 (y2:Int),.int .u64 (y3:Int),.int .u64 (z0:Int),.int .u64 (z1:Int),.int .u64 (z2:Int),.int .u64 (z3:Int)] 69):=⟨_,rfl⟩
 have hz1:w1.heap.size=w.heap.size+1:=by rw [hw1];simp
 have hb1:Below w.heap.size w w1:=by rw [hw1];exact (Below.refl _ _).alloc (Nat.le_refl _) _
 obtain ⟨w2,hw2⟩:∃ W,W=w1.alloc (.cells #[.slice Ax lx.length cx,.slice Ay ly.length cy,.bool false] 26):=⟨_,rfl⟩
 have hz2:w2.heap.size=w.heap.size+1+1:=by rw [hw2];simp [hz1]
 have hb2:Below w.heap.size w w2:=by rw [hw2];exact hb1.alloc hb1.size _
 obtain ⟨u0,hw3⟩:∃ W,W=w2.alloc (.cells #[.int .u64 0,.int .u64 0,.int .u64 0,.int .u64 0,.int .u64 0,.int .u64 0,.int .u64 0,.int .u64 0,.int .u64 0,.int .u64 0,.int .u64 0,.int .u64 0] 69):=⟨_,rfl⟩
 have hb3:Below w.heap.size w u0:=by rw [hw3];exact hb2.alloc hb2.size _
 have BX0:Hid (Holds u0 w.heap.size 69 #[.int .u64 (x0:Int),.int .u64 (x1:Int),.int .u64 (x2:Int),.int .u64 (x3:Int),.int .u64 (y0:Int),.int .u64 (y1:Int),.int .u64 (y2:Int),.int .u64 (y3:Int),.int .u64 (z0:Int),.int .u64 (z1:Int),.int .u64 (z2:Int),.int .u64 (z3:Int)]):=lH (by rw [hw3,hw2,hw1];exact ((Holds.fresh w _ _).alloc _).alloc _)
 have PB0:Hid (Holds u0 (w.heap.size+1) 26 #[.slice Ax lx.length cx,.slice Ay ly.length cy,.bool false]):=lH (by rw [hw3,hw2,←hz1];exact (Holds.fresh w1 _ _).alloc _)
 have RB0:Hid (Holds u0 (w.heap.size+1+1) 69 #[.int .u64 0,.int .u64 0,.int .u64 0,.int .u64 0,.int .u64 0,.int .u64 0,.int .u64 0,.int .u64 0,.int .u64 0,.int .u64 0,.int .u64 0,.int .u64 0]):=lH (by rw [hw3,←hz2];exact Holds.fresh w2 _ _)
 have HB0:=lH hb3
 have HW:=lH (hw1 ▸ hw2 ▸ hw3:u0=((w.alloc (.cells #[.int .u64 (x0:Int),.int .u64 (x1:Int),.int .u64 (x2:Int),.int .u64 (x3:Int),.int .u64 (y0:Int),.int .u64 (y1:Int),.int .u64 (y2:Int),.int .u64 (y3:Int),.int .u64 (z0:Int),.int .u64 (z1:Int),.int .u64 (z2:Int),.int .u64 (z3:Int)] 69)).alloc (.cells #[.slice Ax lx.length cx,.slice Ay ly.length cy,.bool false] 26)).alloc (.cells #[.int .u64 0,.int .u64 0,.int .u64 0,.int .u64 0,.int .u64 0,.int .u64 0,.int .u64 0,.int .u64 0,.int .u64 0,.int .u64 0,.int .u64 0,.int .u64 0] 69))
 have ST0:Hid ((Holds u0 w.heap.size 69 #[.int .u64 (x0:Int),.int .u64 (x1:Int),.int .u64 (x2:Int),.int .u64 (x3:Int),.int .u64 (y0:Int),.int .u64 (y1:Int),.int .u64 (y2:Int),.int .u64 (y3:Int),.int .u64 (z0:Int),.int .u64 (z1:Int),.int .u64 (z2:Int),.int .u64 (z3:Int)])∧(Holds u0 (w.heap.size+1+1) 69 #[.int .u64 0,.int .u64 0,.int .u64 0,.int .u64 0,.int .u64 0,.int .u64 0,.int .u64 0,.int .u64 0,.int .u64 0,.int .u64 0,.int .u64 0,.int .u64 0])∧(Below w.heap.size w u0)∧(CMet u0)∧(Holds u0 (w.heap.size+1) 26 #[.slice Ax lx.length cx,.slice Ay ly.length cy,.bool false])∧(Rd .u32 u0 u0.heap.size Ax cx lx)∧(Rd .u32 u0 u0.heap.size Ay cy ly)):=lH ⟨BX0.out,RB0.out,hb3,hm.under hb3,PB0.out,(hrx.under hb3).more hb3.size,(hry.under hb3).more hb3.size⟩
 clear hw1 hz1 hb1 hw2 hz2 hb2 hw3 hb3 hx hy hz hX hY hZ hm hrx hry hdx hdy hlx hly hvx hvy BX0 PB0 RB0 HB0
 go_enter Tryd.func42,Tryd.ntmps42
 go_wp2_with fail
 rw [←HW.out]
 clear HW
 by_cases hzn:j.z=0
 ·have BX0:=lH (ST0.out.1)
  have RB0:=lH (ST0.out.2.1)
  have HB0:=lH (ST0.out.2.2.1)
  have HM0:=lH (ST0.out.2.2.2.1)
  have PB0:=lH (ST0.out.2.2.2.2.1)
  have RX0:=lH (ST0.out.2.2.2.2.2.1)
  have RY0:=lH (ST0.out.2.2.2.2.2.2)
  have HDX:=lH (FV.out.2.1)
  have HDY:=lH (FV.out.2.2.1)
  have HLX:=lH (FV.out.2.2.2.1)
  have HLY:=lH (FV.out.2.2.2.2.1)
  have HVX:=lH (FV.out.2.2.2.2.2.1)
  have HVY:=lH (FV.out.2.2.2.2.2.2.1)
  have Hz:=lH (FV.out.2.2.2.2.2.2.2.2.2.1)
  have PX:=lH (FV.out.2.2.2.2.2.2.2.2.2.2.1)
  have PY:=lH (FV.out.2.2.2.2.2.2.2.2.2.2.2.1)
  have PZ:=lH (FV.out.2.2.2.2.2.2.2.2.2.2.2.2)
  clear ST0 FV
  have hEZ:∀ W,(Op.equalIn 10000 67 (.agg #[.int .u64 (z0:Int),.int .u64 (z1:Int),.int .u64 (z2:Int),.int .u64 (z3:Int)]) (.agg #[.int .u64 0,.int .u64 0,.int .u64 0,.int .u64 0])).run Tryd.prog W = .ok true W:=fun W=>(eqE W j.z 0 Hz.out dig0).trans (by rw [decide_eq_true hzn])
  have HPL:Hid (Luc.pls j pu pv=⟨pu,pv,1⟩):=lH (by unfold Luc.pls;rw [if_pos hzn])
  have HWO:=lH (wideOf_any u0 HM0.out Ax Ay cx cy lx ly RX0.out RY0.out HDX.out HDY.out HLX.out HLY.out (show nm (enc (val lx))=[X0,X1,X2,X3] by rw [HVX.out,←PX.out,HPL.out];rfl) (show nm (enc (val ly))=[Y0,Y1,Y2,Y3] by rw [HVY.out,←PY.out,HPL.out];rfl) (show nm (enc 1)=[Z0,Z1,Z2,Z3] by rw [←PZ.out,HPL.out];rfl))
  have k8:=BX0.out.cell 8
  have k9:=BX0.out.cell 9
  have k10:=BX0.out.cell 10
  have k11:=BX0.out.cell 11
  have b0:=PB0.out.cell 0
  have b1:=PB0.out.cell 1
  have b2:=PB0.out.cell 2
  go_wp2_with fail
  go_simp
  go_wp2_with fail
  refine HWO.out.mono ?_
  rintro e uE ⟨rfl,hbN⟩
  have HR:=lH (RB0.out.under hbN (Holds.lt RB0.out))
  have HB:=lH (HB0.out.trans (hbN.mono HB0.out.size))
  clear hbN hEZ b0 b1 b2 k8 k9 k10 k11
  have z0:=HR.out.cell 0
  have o0:=HR.out.open_ 0
  have z1:=HR.out.cell 1
  have o1:=HR.out.open_ 1
  have z2:=HR.out.cell 2
  have o2:=HR.out.open_ 2
  have z3:=HR.out.cell 3
  have o3:=HR.out.open_ 3
  have z4:=HR.out.cell 4
  have o4:=HR.out.open_ 4
  have z5:=HR.out.cell 5
  have o5:=HR.out.open_ 5
  have z6:=HR.out.cell 6
  have o6:=HR.out.open_ 6
  have z7:=HR.out.cell 7
  have o7:=HR.out.open_ 7
  have z8:=HR.out.cell 8
  have o8:=HR.out.open_ 8
  have z9:=HR.out.cell 9
  have o9:=HR.out.open_ 9
  have z10:=HR.out.cell 10
  have o10:=HR.out.open_ 10
  have z11:=HR.out.cell 11
  have o11:=HR.out.open_ 11
  go_wp2_with fail
  exact ret_wd (g:=w.heap.size+1+1) rfl rfl (set12 HR.out _ _ _ _ _ _ _ _ _ _ _ _) rfl ⟨rfl,below12 HB.out (by omega) _ _ _ _ _ _ _ _ _ _ _ _⟩
 obtain ⟨pu0,pu1,pu2,pu3,dg_pu⟩:=four (nm_len (en pu))
 obtain ⟨pv0,pv1,pv2,pv3,dg_pv⟩:=four (nm_len (en pv))
 obtain ⟨zz,eq_zz⟩:∃ v,v=j.z*j.z:=⟨_,rfl⟩
 obtain ⟨m1,eq_m1⟩:∃ v,v=pu*zz:=⟨_,rfl⟩
 obtain ⟨ah,eq_ah⟩:∃ v,v=m1 - j.x:=⟨_,rfl⟩
 obtain ⟨zzz,eq_zzz⟩:∃ v,v=zz*j.z:=⟨_,rfl⟩
 obtain ⟨m2,eq_m2⟩:∃ v,v=pv*zzz:=⟨_,rfl⟩
 obtain ⟨ar,eq_ar⟩:∃ v,v=m2 - j.y:=⟨_,rfl⟩
 obtain ⟨zz0,zz1,zz2,zz3,dg_zz⟩:=four (nm_len (en zz))
 obtain ⟨m10,m11,m12,m13,dg_m1⟩:=four (nm_len (en m1))
 obtain ⟨ah0,ah1,ah2,ah3,dg_ah⟩:=four (nm_len (en ah))
 obtain ⟨zzz0,zzz1,zzz2,zzz3,dg_zzz⟩:=four (nm_len (en zzz))
 obtain ⟨m20,m21,m22,m23,dg_m2⟩:=four (nm_len (en m2))
 obtain ⟨ar0,ar1,ar2,ar3,dg_ar⟩:=four (nm_len (en ar))
 have FU:Hid ((j.z≠0)∧(nm (en pu)=[pu0,pu1,pu2,pu3])∧(nm (en pv)=[pv0,pv1,pv2,pv3])∧(zz=j.z*j.z)∧(m1=pu*zz)∧(ah=m1 - j.x)∧(zzz=zz*j.z)∧(m2=pv*zzz)∧(ar=m2 - j.y)∧(nm (en zz)=[zz0,zz1,zz2,zz3])∧(nm (en m1)=[m10,m11,m12,m13])∧(nm (en ah)=[ah0,ah1,ah2,ah3])∧(nm (en zzz)=[zzz0,zzz1,zzz2,zzz3])∧(nm (en m2)=[m20,m21,m22,m23])∧(nm (en ar)=[ar0,ar1,ar2,ar3])):=lH ⟨hzn,dg_pu,dg_pv,eq_zz,eq_m1,eq_ah,eq_zzz,eq_m2,eq_ar,dg_zz,dg_m1,dg_ah,dg_zzz,dg_m2,dg_ar⟩
 clear hzn dg_pu dg_pv eq_zz dg_zz eq_m1 dg_m1 eq_ah dg_ah eq_zzz dg_zzz eq_m2 dg_m2 eq_ar dg_ar
 have BX0:=lH (ST0.out.1)
 have RB0:=lH (ST0.out.2.1)
 have HB0:=lH (ST0.out.2.2.1)
 have HM0:=lH (ST0.out.2.2.2.1)
 have PB0:=lH (ST0.out.2.2.2.2.1)
 have RX0:=lH (ST0.out.2.2.2.2.2.1)
 have RY0:=lH (ST0.out.2.2.2.2.2.2)
 have Hz:=lH (FV.out.2.2.2.2.2.2.2.2.2.1)
 have HZN:=lH (FU.out.1)
 have Ezz:=lH (FU.out.2.2.2.1)
 have Hzz:=lH (FU.out.2.2.2.2.2.2.2.2.2.1)
 have k8:=BX0.out.cell 8
 have k9:=BX0.out.cell 9
 have k10:=BX0.out.cell 10
 have k11:=BX0.out.cell 11
 have hEZ:∀ W,(Op.equalIn 10000 67 (.agg #[.int .u64 (z0:Int),.int .u64 (z1:Int),.int .u64 (z2:Int),.int .u64 (z3:Int)]) (.agg #[.int .u64 0,.int .u64 0,.int .u64 0,.int .u64 0])).run Tryd.prog W = .ok false W:=fun W=>(eqE W j.z 0 Hz.out dig0).trans (by rw [decide_eq_false HZN.out])
 have b2:=PB0.out.cell 2
 go_wp2_with fail
 go_simp
 go_wp2_with fail
 have hbq0:Below u0.heap.size u0 u0:=Below.refl _ _
 refine (mulE u0 (HM0.out.under hbq0) j.z j.z Hz.out Hz.out (by rw [←Ezz.out];exact Hzz.out)).mono ?_
 rintro e c5_0 ⟨rfl,hbN⟩
 have hbq1:=hbq0.trans (hbN.mono hbq0.size)
 clear hbN hbq0
 clear k8 k9 k10 k11 hEZ b2
 go_wp2_with fail
 obtain ⟨u1,hu⟩:∃ W,W=c5_0.alloc (.cells #[.int .u64 (zz0:Int),.int .u64 (zz1:Int),.int .u64 (zz2:Int),.int .u64 (zz3:Int)] 67):=⟨_,rfl⟩
 obtain ⟨g5,hg⟩:∃ g,g=c5_0.heap.size:=⟨_,rfl⟩
 rw [←hu,←hg]
 have hle:u0.heap.size≤g5:=by rw [hg];exact hbq1.size
 have hbk:Below u0.heap.size u0 u1:=by rw [hu];exact hbq1.alloc hbq1.size _
 have hnew:NumOr u1 g5 (some (en zz)):=by
  show Holds _ _ _ (nums .u64 (nm (en zz)))
  rw [nv_of Hzz.out,hu,hg]
  exact Holds.fresh _ _ _
 have ST1:Hid (((Holds u1 w.heap.size 69 #[.int .u64 (x0:Int),.int .u64 (x1:Int),.int .u64 (x2:Int),.int .u64 (x3:Int),.int .u64 (y0:Int),.int .u64 (y1:Int),.int .u64 (y2:Int),.int .u64 (y3:Int),.int .u64 (z0:Int),.int .u64 (z1:Int),.int .u64 (z2:Int),.int .u64 (z3:Int)])∧(Holds u1 (w.heap.size+1+1) 69 #[.int .u64 0,.int .u64 0,.int .u64 0,.int .u64 0,.int .u64 0,.int .u64 0,.int .u64 0,.int .u64 0,.int .u64 0,.int .u64 0,.int .u64 0,.int .u64 0])∧(Below w.heap.size w u1)∧(CMet u1)∧(Holds u1 (w.heap.size+1) 26 #[.slice Ax lx.length cx,.slice Ay ly.length cy,.bool false])∧(Rd .u32 u1 u1.heap.size Ax cx lx)∧(Rd .u32 u1 u1.heap.size Ay cy ly))∧(NumOr u1 g5 (some (en zz)))∧(w.heap.size+1+1<g5)):=lH ⟨⟨BX0.out.under hbk (Holds.lt BX0.out),RB0.out.under hbk (Holds.lt RB0.out),HB0.out.trans (hbk.mono HB0.out.size),HM0.out.under hbk,PB0.out.under hbk (Holds.lt PB0.out),(RX0.out.under hbk).more hbk.size,(RY0.out.under hbk).more hbk.size⟩,hnew,(by have h1:=Holds.lt RB0.out;have h2:=hle;omega)⟩
 clear hle hbk hnew hu hg hbq1 BX0 RB0 HB0 HM0 PB0 RX0 RY0 Hz HZN Ezz Hzz ST0
 obtain ⟨QQ6,HQ6⟩:∃ Q:Exit→Act→World→Prop,Hid (Q=fun e a W=>e = .normal∧∃ (g6:Nat),a.tmps=#[tG a 0,tG a 1,.pointer (some ⟨w.heap.size,0,none⟩),.pointer (some ⟨w.heap.size+1,0,none⟩),.pointer (some ⟨w.heap.size+1+1,0,none⟩),.pointer (some ⟨g5,0,none⟩),.pointer (some ⟨g6,0,none⟩),tG a 7,tG a 8,tG a 9,tG a 10,tG a 11,tG a 12,tG a 13,tG a 14,tG a 15,tG a 16,tG a 17,tG a 18,tG a 19,tG a 20,tG a 21,tG a 22,tG a 23,tG a 24,tG a 25,tG a 26,tG a 27,tG a 28,tG a 29,tG a 30,tG a 31,tG a 32,tG a 33,tG a 34,tG a 35,tG a 36,tG a 37,tG a 38,tG a 39,tG a 40,tG a 41,tG a 42,tG a 43,tG a 44,tG a 45,tG a 46,tG a 47,tG a 48,tG a 49,tG a 50,tG a 51,tG a 52,tG a 53,tG a 54,tG a 55,tG a 56,tG a 57,tG a 58,tG a 59,tG a 60,tG a 61,tG a 62,tG a 63,tG a 64,tG a 65,tG a 66,tG a 67,tG a 68,tG a 69,tG a 70,tG a 71,tG a 72,tG a 73,tG a 74,tG a 75,tG a 76,tG a 77,tG a 78,tG a 79,tG a 80,tG a 81,tG a 82,tG a 83,tG a 84,tG a 85,tG a 86,tG a 87,tG a 88,tG a 89]∧a.defers=[]∧(((Holds W w.heap.size 69 #[.int .u64 (x0:Int),.int .u64 (x1:Int),.int .u64 (x2:Int),.int .u64 (x3:Int),.int .u64 (y0:Int),.int .u64 (y1:Int),.int .u64 (y2:Int),.int .u64 (y3:Int),.int .u64 (z0:Int),.int .u64 (z1:Int),.int .u64 (z2:Int),.int .u64 (z3:Int)])∧(Holds W (w.heap.size+1+1) 69 #[.int .u64 0,.int .u64 0,.int .u64 0,.int .u64 0,.int .u64 0,.int .u64 0,.int .u64 0,.int .u64 0,.int .u64 0,.int .u64 0,.int .u64 0,.int .u64 0])∧(Below w.heap.size w W)∧(CMet W)∧(Holds W (w.heap.size+1) 26 #[.slice Ax lx.length cx,.slice Ay ly.length cy,.bool false])∧(Rd .u32 W W.heap.size Ax cx lx)∧(Rd .u32 W W.heap.size Ay cy ly))∧(NumOr W g5 (some (en zz)))∧(w.heap.size+1+1<g5))∧(NumOr W g6 (some (en ah)))∧(w.heap.size+1+1<g6)):=⟨_,lH rfl⟩
 refine Code.wp_mono (Q:=QQ6) ?_ ?_
 rotate_left 1
 ·have BX1:=lH (ST1.out.1.1)
  have RB1:=lH (ST1.out.1.2.1)
  have HB1:=lH (ST1.out.1.2.2.1)
  have HM1:=lH (ST1.out.1.2.2.2.1)
  have PB1:=lH (ST1.out.1.2.2.2.2.1)
  have RX1:=lH (ST1.out.1.2.2.2.2.2.1)
  have RY1:=lH (ST1.out.1.2.2.2.2.2.2)
  have L5_1:=lH (ST1.out.2.1)
  have NB_5:=lH (ST1.out.2.2)
  have HDX:=lH (FV.out.2.1)
  have HLX:=lH (FV.out.2.2.2.1)
  have HVX:=lH (FV.out.2.2.2.2.2.1)
  have Hx:=lH (FV.out.2.2.2.2.2.2.2.1)
  have Hpu:=lH (FU.out.2.1)
  have Em1:=lH (FU.out.2.2.2.2.1)
  have Eah:=lH (FU.out.2.2.2.2.2.1)
  have Hzz:=lH (FU.out.2.2.2.2.2.2.2.2.2.1)
  have Hm1:=lH (FU.out.2.2.2.2.2.2.2.2.2.2.1)
  have Hah:=lH (FU.out.2.2.2.2.2.2.2.2.2.2.2.1)
  clear ST1 FV FU
  have HF:Hid (∀ W,Below u1.heap.size u1 W→((Holds W w.heap.size 69 #[.int .u64 (x0:Int),.int .u64 (x1:Int),.int .u64 (x2:Int),.int .u64 (x3:Int),.int .u64 (y0:Int),.int .u64 (y1:Int),.int .u64 (y2:Int),.int .u64 (y3:Int),.int .u64 (z0:Int),.int .u64 (z1:Int),.int .u64 (z2:Int),.int .u64 (z3:Int)])∧(Holds W (w.heap.size+1+1) 69 #[.int .u64 0,.int .u64 0,.int .u64 0,.int .u64 0,.int .u64 0,.int .u64 0,.int .u64 0,.int .u64 0,.int .u64 0,.int .u64 0,.int .u64 0,.int .u64 0])∧(Below w.heap.size w W)∧(CMet W)∧(Holds W (w.heap.size+1) 26 #[.slice Ax lx.length cx,.slice Ay ly.length cy,.bool false])∧(Rd .u32 W W.heap.size Ax cx lx)∧(Rd .u32 W W.heap.size Ay cy ly))∧(NumOr W g5 (some (en zz)))∧(w.heap.size+1+1<g5)):=lH fun W h=>⟨⟨BX1.out.under h (Holds.lt BX1.out),RB1.out.under h (Holds.lt RB1.out),HB1.out.trans (h.mono HB1.out.size),HM1.out.under h,PB1.out.under h (Holds.lt PB1.out),(RX1.out.under h).more h.size,(RY1.out.under h).more h.size⟩,NumOr.under L5_1.out h,NB_5.out⟩
  refine wp_region_noPanic ?_
  refine wp_region_held_drew (S:=fun W=>Below u1.heap.size u1 W) (by kernel_rfl) ((Below.refl _ u1).drew) (fun hHeld=>?_)
  obtain ⟨V,hV⟩:∃ W,W=u1.drew:=⟨_,rfl⟩
  rw [←hV]
  have HSV:Hid (Below u1.heap.size u1 V):=lH (by rw [hV];exact (Below.refl _ u1).drew)
  replace hHeld:(fun W=>Below u1.heap.size u1 W) V:=HSV.out
  clear hV
  refine tk 0 ⟨some 27,.fieldAddr 26 (.tmp 3) 0,0,_,_,none⟩ ?_ rfl ?_ hHeld ?_
  rotate_left 1
  ·(intro W hW;(try dsimp only at hW);go_simp;try with_reducible rfl)
  try simp only [aP]
  refine tk 1 ⟨some 28,.load 24 (.tmp 27),24,_,_,none⟩ ?_ rfl ?_ hHeld ?_
  rotate_left 1
  ·(intro W hW;have hPB:=PB1.out.under hW (Holds.lt PB1.out);have b0:=hPB.cell 0;(try dsimp only at hW);go_simp;try with_reducible rfl)
  try simp only [aP]
  refine tk 3 ⟨some 30,.load 67 (.tmp 5),67,_,_,none⟩ ?_ rfl ?_ hHeld ?_
  rotate_left 1
  ·(intro W hW;have hBC:=(NumOr.under L5_1.out hW).cells Hzz.out;obtain ⟨q0,q1,q2,q3⟩:=hBC;(try dsimp only at hW);go_simp;try with_reducible rfl)
  try simp only [aP]
  refine tk 5 ⟨some 32,.fieldAddr 69 (.tmp 2) 0,0,_,_,none⟩ ?_ rfl ?_ hHeld ?_
  rotate_left 1
  ·(intro W hW;(try dsimp only at hW);go_simp;try with_reducible rfl)
  try simp only [aP]
  refine tk 6 ⟨some 33,.load 67 (.tmp 32),67,_,_,none⟩ ?_ rfl ?_ hHeld ?_
  rotate_left 1
  ·(intro W hW;have hBB:=BX1.out.under hW (Holds.lt BX1.out);have k0:=hBB.cell 0;have k1:=hBB.cell 1;have k2:=hBB.cell 2;have k3:=hBB.cell 3;(try dsimp only at hW);go_simp;try with_reducible rfl)
  try simp only [aP]
  refine wpAnyH_ready (rs:=[2,8]) (by kernel_rfl) (by simp) ?_
  refine AllReadyH.cons (o:=⟨some 29,.call ⟨ .value (.func 54),#[.tmp 28],#[24]⟩,67,_,_,none⟩) rfl (fun K hK=>?_) ?_
  go_simp
  refine (enterN V (HM1.out.under HSV.out) u1.heap.size cx Ax lx HSV.out.size (RX1.out.under HSV.out) HLX.out HDX.out (show nm (enc (val lx))=_ by rw [HVX.out];exact Hpu.out)).mono ?_
  rintro e V2 ⟨rfl,hbN⟩
  have HSV2:=lH (HSV.out.trans (hbN.mono HSV.out.size))
  clear hbN
  clear HSV
  go_simp
  refine hK.out _ _ (HSV2.out) (fun hHeld=>?_)
  clear hK K
  try simp only [aP]
  refine wpAnyH_ready (rs:=[4,8]) (by kernel_rfl) (by simp) ?_
  refine AllReadyH.cons (o:=⟨some 31,.call ⟨ .value (.func 56),#[.tmp 29,.tmp 30],#[67,67]⟩,67,_,_,none⟩) rfl (fun K hK=>?_) ?_
  go_simp
  refine (mulE V2 (HM1.out.under HSV2.out) pu zz Hpu.out Hzz.out (by rw [←Em1.out];exact Hm1.out)).mono ?_
  rintro e V24 ⟨rfl,hbN⟩
  have HSV24:=lH (HSV2.out.trans (hbN.mono HSV2.out.size))
  clear hbN
  clear HSV2
  go_simp
  refine hK.out _ _ (HSV24.out) (fun hHeld=>?_)
  clear hK K
  try simp only [aP]
  refine wpAnyH_ready (rs:=[7,8]) (by kernel_rfl) (by simp) ?_
  refine AllReadyH.cons (o:=⟨some 34,.call ⟨ .value (.func 55),#[.tmp 31,.tmp 33],#[67,67]⟩,67,_,_,none⟩) rfl (fun K hK=>?_) ?_
  go_simp
  refine (subE V24 (HM1.out.under HSV24.out) m1 j.x Hm1.out Hx.out (by rw [←Eah.out];exact Hah.out)).mono ?_
  rintro e V247 ⟨rfl,hbN⟩
  have HSV247:=lH (HSV24.out.trans (hbN.mono HSV24.out.size))
  clear hbN
  clear HSV24
  go_simp
  refine hK.out _ _ (HSV247.out) (fun hHeld=>?_)
  clear hK K
  try simp only [aP]
  refine rdy 8 ⟨some 6,.alloc 67,0,_,_,none⟩ rfl (fun K hK=>?_)
  obtain ⟨V2478,hN⟩:∃ W,W=V247.alloc (.cells #[.int .u64 0,.int .u64 0,.int .u64 0,.int .u64 0] 67):=⟨_,rfl⟩
  go_simp
  rw [←hN]
  obtain ⟨g6,hg⟩:∃ g,g=V247.heap.size:=⟨_,rfl⟩
  rw [←hg]
  have A6V2478:Hid (NumOr V2478 g6 none):=lH (by rw [hN,hg];exact NumOr.fresh _)
  have HSV2478:=lH (by rw [hN];exact HSV247.out.alloc HSV247.out.size _:Below u1.heap.size u1 V2478)
  have HG6:Hid (u1.heap.size≤g6):=lH (by rw [hg];exact HSV247.out.size)
  clear hN hg
  have HU0:=lH (show w.heap.size+1+1<g6 from (by have h1:=Holds.lt RB1.out;have h2:=HG6.out;omega))
  clear HSV247
  refine hK.out _ _ (HSV2478.out) (fun hHeld=>?_)
  clear hK K
  try simp only [aP]
  refine rdy 9 ⟨none,.store 67 (.tmp 6) (.tmp 34),0,_,_,none⟩ rfl (fun K hK=>?_)
  obtain ⟨zv0,zv1,zv2,zv3,⟨z0,o0⟩,⟨z1,o1⟩,⟨z2,o2⟩,⟨z3,o3⟩⟩:=NumOr.facts A6V2478.out
  obtain ⟨V24789,hN⟩:∃ W,W=((((V2478.setCell ⟨g6,0,none⟩ (.int .u64 (ah0:Int))).setCell ⟨g6,1,none⟩ (.int .u64 (ah1:Int))).setCell ⟨g6,2,none⟩ (.int .u64 (ah2:Int))).setCell ⟨g6,3,none⟩ (.int .u64 (ah3:Int))):=⟨_,rfl⟩
  go_simp
  rw [←hN]
  have A6V24789:Hid (NumOr V24789 g6 (some (en ah))):=lH (by rw [hN];exact NumOr.set A6V2478.out Hah.out)
  have HSV24789:=lH (by rw [hN];exact below4 HSV2478.out HG6.out _ _ _ _:Below u1.heap.size u1 V24789)
  clear hN z0 o0 z1 o1 z2 o2 z3 o3 zv0 zv1 zv2 zv3
  clear HSV2478 A6V2478
  refine hK.out _ _ (HSV24789.out) (fun hHeld=>?_)
  clear hK K
  try simp only [aP]
  refine wpAnyH_done (by kernel_rfl) ?_ _
  refine NoPanic.normal ?_
  rw [HQ6.out]
  exact ⟨rfl,g6,rfl,rfl,HF.out _ HSV24789.out,A6V24789.out,HU0.out⟩
  refine AllReadyH.cons (o:=⟨some 6,.alloc 67,0,_,_,none⟩) rfl (fun K hK=>?_) AllReadyH.nil
  obtain ⟨V248,hN⟩:∃ W,W=V24.alloc (.cells #[.int .u64 0,.int .u64 0,.int .u64 0,.int .u64 0] 67):=⟨_,rfl⟩
  go_simp
  rw [←hN]
  obtain ⟨g6,hg⟩:∃ g,g=V24.heap.size:=⟨_,rfl⟩
  rw [←hg]
  have A6V248:Hid (NumOr V248 g6 none):=lH (by rw [hN,hg];exact NumOr.fresh _)
  have HSV248:=lH (by rw [hN];exact HSV24.out.alloc HSV24.out.size _:Below u1.heap.size u1 V248)
  have HG6:Hid (u1.heap.size≤g6):=lH (by rw [hg];exact HSV24.out.size)
  clear hN hg
  have HU0:=lH (show w.heap.size+1+1<g6 from (by have h1:=Holds.lt RB1.out;have h2:=HG6.out;omega))
  clear HSV24
  refine hK.out _ _ (HSV248.out) (fun hHeld=>?_)
  clear hK K
  try simp only [aP]
  refine rdy 7 ⟨some 34,.call ⟨ .value (.func 55),#[.tmp 31,.tmp 33],#[67,67]⟩,67,_,_,none⟩ rfl (fun K hK=>?_)
  go_simp
  refine (subE V248 (HM1.out.under HSV248.out) m1 j.x Hm1.out Hx.out (by rw [←Eah.out];exact Hah.out)).mono ?_
  rintro e V2487 ⟨rfl,hbN⟩
  have HSV2487:=lH (HSV248.out.trans (hbN.mono HSV248.out.size))
  have A6V2487:Hid (NumOr V2487 g6 none):=lH (NumOr.under A6V248.out hbN)
  clear hbN
  clear HSV248 A6V248
  go_simp
  refine hK.out _ _ (HSV2487.out) (fun hHeld=>?_)
  clear hK K
  try simp only [aP]
  refine rdy 9 ⟨none,.store 67 (.tmp 6) (.tmp 34),0,_,_,none⟩ rfl (fun K hK=>?_)
  obtain ⟨zv0,zv1,zv2,zv3,⟨z0,o0⟩,⟨z1,o1⟩,⟨z2,o2⟩,⟨z3,o3⟩⟩:=NumOr.facts A6V2487.out
  obtain ⟨V24879,hN⟩:∃ W,W=((((V2487.setCell ⟨g6,0,none⟩ (.int .u64 (ah0:Int))).setCell ⟨g6,1,none⟩ (.int .u64 (ah1:Int))).setCell ⟨g6,2,none⟩ (.int .u64 (ah2:Int))).setCell ⟨g6,3,none⟩ (.int .u64 (ah3:Int))):=⟨_,rfl⟩
  go_simp
  rw [←hN]
  have A6V24879:Hid (NumOr V24879 g6 (some (en ah))):=lH (by rw [hN];exact NumOr.set A6V2487.out Hah.out)
  have HSV24879:=lH (by rw [hN];exact below4 HSV2487.out HG6.out _ _ _ _:Below u1.heap.size u1 V24879)
  clear hN z0 o0 z1 o1 z2 o2 z3 o3 zv0 zv1 zv2 zv3
  clear HSV2487 A6V2487
  refine hK.out _ _ (HSV24879.out) (fun hHeld=>?_)
  clear hK K
  try simp only [aP]
  refine wpAnyH_done (by kernel_rfl) ?_ _
  refine NoPanic.normal ?_
  rw [HQ6.out]
  exact ⟨rfl,g6,rfl,rfl,HF.out _ HSV24879.out,A6V24879.out,HU0.out⟩
  refine AllReadyH.cons (o:=⟨some 6,.alloc 67,0,_,_,none⟩) rfl (fun K hK=>?_) AllReadyH.nil
  obtain ⟨V28,hN⟩:∃ W,W=V2.alloc (.cells #[.int .u64 0,.int .u64 0,.int .u64 0,.int .u64 0] 67):=⟨_,rfl⟩
  go_simp
  rw [←hN]
  obtain ⟨g6,hg⟩:∃ g,g=V2.heap.size:=⟨_,rfl⟩
  rw [←hg]
  have A6V28:Hid (NumOr V28 g6 none):=lH (by rw [hN,hg];exact NumOr.fresh _)
  have HSV28:=lH (by rw [hN];exact HSV2.out.alloc HSV2.out.size _:Below u1.heap.size u1 V28)
  have HG6:Hid (u1.heap.size≤g6):=lH (by rw [hg];exact HSV2.out.size)
  clear hN hg
  have HU0:=lH (show w.heap.size+1+1<g6 from (by have h1:=Holds.lt RB1.out;have h2:=HG6.out;omega))
  clear HSV2
  refine hK.out _ _ (HSV28.out) (fun hHeld=>?_)
  clear hK K
  try simp only [aP]
  refine rdy 4 ⟨some 31,.call ⟨ .value (.func 56),#[.tmp 29,.tmp 30],#[67,67]⟩,67,_,_,none⟩ rfl (fun K hK=>?_)
  go_simp
  refine (mulE V28 (HM1.out.under HSV28.out) pu zz Hpu.out Hzz.out (by rw [←Em1.out];exact Hm1.out)).mono ?_
  rintro e V284 ⟨rfl,hbN⟩
  have HSV284:=lH (HSV28.out.trans (hbN.mono HSV28.out.size))
  have A6V284:Hid (NumOr V284 g6 none):=lH (NumOr.under A6V28.out hbN)
  clear hbN
  clear HSV28 A6V28
  go_simp
  refine hK.out _ _ (HSV284.out) (fun hHeld=>?_)
  clear hK K
  try simp only [aP]
  refine rdy 7 ⟨some 34,.call ⟨ .value (.func 55),#[.tmp 31,.tmp 33],#[67,67]⟩,67,_,_,none⟩ rfl (fun K hK=>?_)
  go_simp
  refine (subE V284 (HM1.out.under HSV284.out) m1 j.x Hm1.out Hx.out (by rw [←Eah.out];exact Hah.out)).mono ?_
  rintro e V2847 ⟨rfl,hbN⟩
  have HSV2847:=lH (HSV284.out.trans (hbN.mono HSV284.out.size))
  have A6V2847:Hid (NumOr V2847 g6 none):=lH (NumOr.under A6V284.out hbN)
  clear hbN
  clear HSV284 A6V284
  go_simp
  refine hK.out _ _ (HSV2847.out) (fun hHeld=>?_)
  clear hK K
  try simp only [aP]
  refine rdy 9 ⟨none,.store 67 (.tmp 6) (.tmp 34),0,_,_,none⟩ rfl (fun K hK=>?_)
  obtain ⟨zv0,zv1,zv2,zv3,⟨z0,o0⟩,⟨z1,o1⟩,⟨z2,o2⟩,⟨z3,o3⟩⟩:=NumOr.facts A6V2847.out
  obtain ⟨V28479,hN⟩:∃ W,W=((((V2847.setCell ⟨g6,0,none⟩ (.int .u64 (ah0:Int))).setCell ⟨g6,1,none⟩ (.int .u64 (ah1:Int))).setCell ⟨g6,2,none⟩ (.int .u64 (ah2:Int))).setCell ⟨g6,3,none⟩ (.int .u64 (ah3:Int))):=⟨_,rfl⟩
  go_simp
  rw [←hN]
  have A6V28479:Hid (NumOr V28479 g6 (some (en ah))):=lH (by rw [hN];exact NumOr.set A6V2847.out Hah.out)
  have HSV28479:=lH (by rw [hN];exact below4 HSV2847.out HG6.out _ _ _ _:Below u1.heap.size u1 V28479)
  clear hN z0 o0 z1 o1 z2 o2 z3 o3 zv0 zv1 zv2 zv3
  clear HSV2847 A6V2847
  refine hK.out _ _ (HSV28479.out) (fun hHeld=>?_)
  clear hK K
  try simp only [aP]
  refine wpAnyH_done (by kernel_rfl) ?_ _
  refine NoPanic.normal ?_
  rw [HQ6.out]
  exact ⟨rfl,g6,rfl,rfl,HF.out _ HSV28479.out,A6V28479.out,HU0.out⟩
  refine AllReadyH.cons (o:=⟨some 6,.alloc 67,0,_,_,none⟩) rfl (fun K hK=>?_) AllReadyH.nil
  obtain ⟨V8,hN⟩:∃ W,W=V.alloc (.cells #[.int .u64 0,.int .u64 0,.int .u64 0,.int .u64 0] 67):=⟨_,rfl⟩
  go_simp
  rw [←hN]
  obtain ⟨g6,hg⟩:∃ g,g=V.heap.size:=⟨_,rfl⟩
  rw [←hg]
  have A6V8:Hid (NumOr V8 g6 none):=lH (by rw [hN,hg];exact NumOr.fresh _)
  have HSV8:=lH (by rw [hN];exact HSV.out.alloc HSV.out.size _:Below u1.heap.size u1 V8)
  have HG6:Hid (u1.heap.size≤g6):=lH (by rw [hg];exact HSV.out.size)
  clear hN hg
  have HU0:=lH (show w.heap.size+1+1<g6 from (by have h1:=Holds.lt RB1.out;have h2:=HG6.out;omega))
  clear HSV
  refine hK.out _ _ (HSV8.out) (fun hHeld=>?_)
  clear hK K
  try simp only [aP]
  refine rdy 2 ⟨some 29,.call ⟨ .value (.func 54),#[.tmp 28],#[24]⟩,67,_,_,none⟩ rfl (fun K hK=>?_)
  go_simp
  refine (enterN V8 (HM1.out.under HSV8.out) u1.heap.size cx Ax lx HSV8.out.size (RX1.out.under HSV8.out) HLX.out HDX.out (show nm (enc (val lx))=_ by rw [HVX.out];exact Hpu.out)).mono ?_
  rintro e V82 ⟨rfl,hbN⟩
  have HSV82:=lH (HSV8.out.trans (hbN.mono HSV8.out.size))
  have A6V82:Hid (NumOr V82 g6 none):=lH (NumOr.under A6V8.out hbN)
  clear hbN
  clear HSV8 A6V8
  go_simp
  refine hK.out _ _ (HSV82.out) (fun hHeld=>?_)
  clear hK K
  try simp only [aP]
  refine rdy 4 ⟨some 31,.call ⟨ .value (.func 56),#[.tmp 29,.tmp 30],#[67,67]⟩,67,_,_,none⟩ rfl (fun K hK=>?_)
  go_simp
  refine (mulE V82 (HM1.out.under HSV82.out) pu zz Hpu.out Hzz.out (by rw [←Em1.out];exact Hm1.out)).mono ?_
  rintro e V824 ⟨rfl,hbN⟩
  have HSV824:=lH (HSV82.out.trans (hbN.mono HSV82.out.size))
  have A6V824:Hid (NumOr V824 g6 none):=lH (NumOr.under A6V82.out hbN)
  clear hbN
  clear HSV82 A6V82
  go_simp
  refine hK.out _ _ (HSV824.out) (fun hHeld=>?_)
  clear hK K
  try simp only [aP]
  refine rdy 7 ⟨some 34,.call ⟨ .value (.func 55),#[.tmp 31,.tmp 33],#[67,67]⟩,67,_,_,none⟩ rfl (fun K hK=>?_)
  go_simp
  refine (subE V824 (HM1.out.under HSV824.out) m1 j.x Hm1.out Hx.out (by rw [←Eah.out];exact Hah.out)).mono ?_
  rintro e V8247 ⟨rfl,hbN⟩
  have HSV8247:=lH (HSV824.out.trans (hbN.mono HSV824.out.size))
  have A6V8247:Hid (NumOr V8247 g6 none):=lH (NumOr.under A6V824.out hbN)
  clear hbN
  clear HSV824 A6V824
  go_simp
  refine hK.out _ _ (HSV8247.out) (fun hHeld=>?_)
  clear hK K
  try simp only [aP]
  refine rdy 9 ⟨none,.store 67 (.tmp 6) (.tmp 34),0,_,_,none⟩ rfl (fun K hK=>?_)
  obtain ⟨zv0,zv1,zv2,zv3,⟨z0,o0⟩,⟨z1,o1⟩,⟨z2,o2⟩,⟨z3,o3⟩⟩:=NumOr.facts A6V8247.out
  obtain ⟨V82479,hN⟩:∃ W,W=((((V8247.setCell ⟨g6,0,none⟩ (.int .u64 (ah0:Int))).setCell ⟨g6,1,none⟩ (.int .u64 (ah1:Int))).setCell ⟨g6,2,none⟩ (.int .u64 (ah2:Int))).setCell ⟨g6,3,none⟩ (.int .u64 (ah3:Int))):=⟨_,rfl⟩
  go_simp
  rw [←hN]
  have A6V82479:Hid (NumOr V82479 g6 (some (en ah))):=lH (by rw [hN];exact NumOr.set A6V8247.out Hah.out)
  have HSV82479:=lH (by rw [hN];exact below4 HSV8247.out HG6.out _ _ _ _:Below u1.heap.size u1 V82479)
  clear hN z0 o0 z1 o1 z2 o2 z3 o3 zv0 zv1 zv2 zv3
  clear HSV8247 A6V8247
  refine hK.out _ _ (HSV82479.out) (fun hHeld=>?_)
  clear hK K
  try simp only [aP]
  refine wpAnyH_done (by kernel_rfl) ?_ _
  refine NoPanic.normal ?_
  rw [HQ6.out]
  exact ⟨rfl,g6,rfl,rfl,HF.out _ HSV82479.out,A6V82479.out,HU0.out⟩
 rintro e a u2 hq
 rw [HQ6.out] at hq
 obtain ⟨rfl,g6,htm,hdf,hst⟩:=hq
 have ST2:=lH hst
 clear hst HQ6 ST1
 obtain ⟨tm,df⟩:=a
 dsimp only at htm hdf
 subst hdf
 obtain ⟨U,hU⟩:∃ U:Nat→Value,∀ i,tm.getD i undef=U i:=⟨_,fun _=>rfl⟩
 simp only [tG,hU] at htm
 clear hU
 subst htm
 go_step
 go_step
 (repeat (first | (apply wp_seq_k;intro _ _) | apply wp_block))
 obtain ⟨QQ7,HQ7⟩:∃ Q:Exit→Act→World→Prop,Hid (Q=fun e a W=>e = .normal∧∃ (g7:Nat),a.tmps=#[tG a 0,tG a 1,.pointer (some ⟨w.heap.size,0,none⟩),.pointer (some ⟨w.heap.size+1,0,none⟩),.pointer (some ⟨w.heap.size+1+1,0,none⟩),.pointer (some ⟨g5,0,none⟩),.pointer (some ⟨g6,0,none⟩),.pointer (some ⟨g7,0,none⟩),tG a 8,tG a 9,tG a 10,tG a 11,tG a 12,tG a 13,tG a 14,tG a 15,tG a 16,tG a 17,tG a 18,tG a 19,tG a 20,tG a 21,tG a 22,tG a 23,tG a 24,tG a 25,tG a 26,tG a 27,tG a 28,tG a 29,tG a 30,tG a 31,tG a 32,tG a 33,tG a 34,tG a 35,tG a 36,tG a 37,tG a 38,tG a 39,tG a 40,tG a 41,tG a 42,tG a 43,tG a 44,tG a 45,tG a 46,tG a 47,tG a 48,tG a 49,tG a 50,tG a 51,tG a 52,tG a 53,tG a 54,tG a 55,tG a 56,tG a 57,tG a 58,tG a 59,tG a 60,tG a 61,tG a 62,tG a 63,tG a 64,tG a 65,tG a 66,tG a 67,tG a 68,tG a 69,tG a 70,tG a 71,tG a 72,tG a 73,tG a 74,tG a 75,tG a 76,tG a 77,tG a 78,tG a 79,tG a 80,tG a 81,tG a 82,tG a 83,tG a 84,tG a 85,tG a 86,tG a 87,tG a 88,tG a 89]∧a.defers=[]∧((((Holds W w.heap.size 69 #[.int .u64 (x0:Int),.int .u64 (x1:Int),.int .u64 (x2:Int),.int .u64 (x3:Int),.int .u64 (y0:Int),.int .u64 (y1:Int),.int .u64 (y2:Int),.int .u64 (y3:Int),.int .u64 (z0:Int),.int .u64 (z1:Int),.int .u64 (z2:Int),.int .u64 (z3:Int)])∧(Holds W (w.heap.size+1+1) 69 #[.int .u64 0,.int .u64 0,.int .u64 0,.int .u64 0,.int .u64 0,.int .u64 0,.int .u64 0,.int .u64 0,.int .u64 0,.int .u64 0,.int .u64 0,.int .u64 0])∧(Below w.heap.size w W)∧(CMet W)∧(Holds W (w.heap.size+1) 26 #[.slice Ax lx.length cx,.slice Ay ly.length cy,.bool false])∧(Rd .u32 W W.heap.size Ax cx lx)∧(Rd .u32 W W.heap.size Ay cy ly))∧(NumOr W g5 (some (en zz)))∧(w.heap.size+1+1<g5))∧(NumOr W g6 (some (en ah)))∧(w.heap.size+1+1<g6))∧(NumOr W g7 (some (en ar)))∧(w.heap.size+1+1<g7)):=⟨_,lH rfl⟩
 refine Code.wp_mono (Q:=QQ7) ?_ ?_
 rotate_left 1
 ·have BX2:=lH (ST2.out.1.1.1)
  have RB2:=lH (ST2.out.1.1.2.1)
  have HB2:=lH (ST2.out.1.1.2.2.1)
  have HM2:=lH (ST2.out.1.1.2.2.2.1)
  have PB2:=lH (ST2.out.1.1.2.2.2.2.1)
  have RX2:=lH (ST2.out.1.1.2.2.2.2.2.1)
  have RY2:=lH (ST2.out.1.1.2.2.2.2.2.2)
  have L5_2:=lH (ST2.out.1.2.1)
  have NB_5:=lH (ST2.out.1.2.2)
  have L6_2:=lH (ST2.out.2.1)
  have NB_6:=lH (ST2.out.2.2)
  have HDY:=lH (FV.out.2.2.1)
  have HLY:=lH (FV.out.2.2.2.2.1)
  have HVY:=lH (FV.out.2.2.2.2.2.2.1)
  have Hy:=lH (FV.out.2.2.2.2.2.2.2.2.1)
  have Hz:=lH (FV.out.2.2.2.2.2.2.2.2.2.1)
  have Hpv:=lH (FU.out.2.2.1)
  have Ezzz:=lH (FU.out.2.2.2.2.2.2.1)
  have Em2:=lH (FU.out.2.2.2.2.2.2.2.1)
  have Ear:=lH (FU.out.2.2.2.2.2.2.2.2.1)
  have Hzz:=lH (FU.out.2.2.2.2.2.2.2.2.2.1)
  have Hzzz:=lH (FU.out.2.2.2.2.2.2.2.2.2.2.2.2.1)
  have Hm2:=lH (FU.out.2.2.2.2.2.2.2.2.2.2.2.2.2.1)
  have Har:=lH (FU.out.2.2.2.2.2.2.2.2.2.2.2.2.2.2)
  clear ST2 FV FU
  have HF:Hid (∀ W,Below u2.heap.size u2 W→(((Holds W w.heap.size 69 #[.int .u64 (x0:Int),.int .u64 (x1:Int),.int .u64 (x2:Int),.int .u64 (x3:Int),.int .u64 (y0:Int),.int .u64 (y1:Int),.int .u64 (y2:Int),.int .u64 (y3:Int),.int .u64 (z0:Int),.int .u64 (z1:Int),.int .u64 (z2:Int),.int .u64 (z3:Int)])∧(Holds W (w.heap.size+1+1) 69 #[.int .u64 0,.int .u64 0,.int .u64 0,.int .u64 0,.int .u64 0,.int .u64 0,.int .u64 0,.int .u64 0,.int .u64 0,.int .u64 0,.int .u64 0,.int .u64 0])∧(Below w.heap.size w W)∧(CMet W)∧(Holds W (w.heap.size+1) 26 #[.slice Ax lx.length cx,.slice Ay ly.length cy,.bool false])∧(Rd .u32 W W.heap.size Ax cx lx)∧(Rd .u32 W W.heap.size Ay cy ly))∧(NumOr W g5 (some (en zz)))∧(w.heap.size+1+1<g5))∧(NumOr W g6 (some (en ah)))∧(w.heap.size+1+1<g6)):=lH fun W h=>⟨⟨⟨BX2.out.under h (Holds.lt BX2.out),RB2.out.under h (Holds.lt RB2.out),HB2.out.trans (h.mono HB2.out.size),HM2.out.under h,PB2.out.under h (Holds.lt PB2.out),(RX2.out.under h).more h.size,(RY2.out.under h).more h.size⟩,NumOr.under L5_2.out h,NB_5.out⟩,NumOr.under L6_2.out h,NB_6.out⟩
  refine wp_region_noPanic ?_
  refine wp_region_held_drew (S:=fun W=>Below u2.heap.size u2 W) (by kernel_rfl) ((Below.refl _ u2).drew) (fun hHeld=>?_)
  obtain ⟨V,hV⟩:∃ W,W=u2.drew:=⟨_,rfl⟩
  rw [←hV]
  have HSV:Hid (Below u2.heap.size u2 V):=lH (by rw [hV];exact (Below.refl _ u2).drew)
  replace hHeld:(fun W=>Below u2.heap.size u2 W) V:=HSV.out
  clear hV
  refine tk 0 ⟨some 35,.fieldAddr 26 (.tmp 3) 1,0,_,_,none⟩ ?_ rfl ?_ hHeld ?_
  rotate_left 1
  ·(intro W hW;(try dsimp only at hW);go_simp;try with_reducible rfl)
  try simp only [aP]
  refine tk 1 ⟨some 36,.load 24 (.tmp 35),24,_,_,none⟩ ?_ rfl ?_ hHeld ?_
  rotate_left 1
  ·(intro W hW;have hPB:=PB2.out.under hW (Holds.lt PB2.out);have b1:=hPB.cell 1;(try dsimp only at hW);go_simp;try with_reducible rfl)
  try simp only [aP]
  refine tk 3 ⟨some 38,.load 67 (.tmp 5),67,_,_,none⟩ ?_ rfl ?_ hHeld ?_
  rotate_left 1
  ·(intro W hW;have hBC:=(NumOr.under L5_2.out hW).cells Hzz.out;obtain ⟨q0,q1,q2,q3⟩:=hBC;(try dsimp only at hW);go_simp;try with_reducible rfl)
  try simp only [aP]
  refine tk 4 ⟨some 39,.fieldAddr 69 (.tmp 2) 2,0,_,_,none⟩ ?_ rfl ?_ hHeld ?_
  rotate_left 1
  ·(intro W hW;(try dsimp only at hW);go_simp;try with_reducible rfl)
  try simp only [aP]
  refine tk 5 ⟨some 40,.load 67 (.tmp 39),67,_,_,none⟩ ?_ rfl ?_ hHeld ?_
  rotate_left 1
  ·(intro W hW;have hBB:=BX2.out.under hW (Holds.lt BX2.out);have k8:=hBB.cell 8;have k9:=hBB.cell 9;have k10:=hBB.cell 10;have k11:=hBB.cell 11;(try dsimp only at hW);go_simp;try with_reducible rfl)
  try simp only [aP]
  refine tk 8 ⟨some 43,.fieldAddr 69 (.tmp 2) 1,0,_,_,none⟩ ?_ rfl ?_ hHeld ?_
  rotate_left 1
  ·(intro W hW;(try dsimp only at hW);go_simp;try with_reducible rfl)
  try simp only [aP]
  refine tk 9 ⟨some 44,.load 67 (.tmp 43),67,_,_,none⟩ ?_ rfl ?_ hHeld ?_
  rotate_left 1
  ·(intro W hW;have hBB:=BX2.out.under hW (Holds.lt BX2.out);have k4:=hBB.cell 4;have k5:=hBB.cell 5;have k6:=hBB.cell 6;have k7:=hBB.cell 7;(try dsimp only at hW);go_simp;try with_reducible rfl)
  try simp only [aP]
  refine wpAnyH_ready (rs:=[2,11]) (by kernel_rfl) (by simp) ?_
  refine AllReadyH.cons (o:=⟨some 37,.call ⟨ .value (.func 54),#[.tmp 36],#[24]⟩,67,_,_,none⟩) rfl (fun K hK=>?_) ?_
  go_simp
  refine (enterN V (HM2.out.under HSV.out) u2.heap.size cy Ay ly HSV.out.size (RY2.out.under HSV.out) HLY.out HDY.out (show nm (enc (val ly))=_ by rw [HVY.out];exact Hpv.out)).mono ?_
  rintro e V2 ⟨rfl,hbN⟩
  have HSV2:=lH (HSV.out.trans (hbN.mono HSV.out.size))
  clear hbN
  clear HSV
  go_simp
  refine hK.out _ _ (HSV2.out) (fun hHeld=>?_)
  clear hK K
  try simp only [aP]
  refine wpAnyH_ready (rs:=[6,11]) (by kernel_rfl) (by simp) ?_
  refine AllReadyH.cons (o:=⟨some 41,.call ⟨ .value (.func 56),#[.tmp 38,.tmp 40],#[67,67]⟩,67,_,_,none⟩) rfl (fun K hK=>?_) ?_
  go_simp
  refine (mulE V2 (HM2.out.under HSV2.out) zz j.z Hzz.out Hz.out (by rw [←Ezzz.out];exact Hzzz.out)).mono ?_
  rintro e V26 ⟨rfl,hbN⟩
  have HSV26:=lH (HSV2.out.trans (hbN.mono HSV2.out.size))
  clear hbN
  clear HSV2
  go_simp
  refine hK.out _ _ (HSV26.out) (fun hHeld=>?_)
  clear hK K
  try simp only [aP]
  refine wpAnyH_ready (rs:=[7,11]) (by kernel_rfl) (by simp) ?_
  refine AllReadyH.cons (o:=⟨some 42,.call ⟨ .value (.func 56),#[.tmp 37,.tmp 41],#[67,67]⟩,67,_,_,none⟩) rfl (fun K hK=>?_) ?_
  go_simp
  refine (mulE V26 (HM2.out.under HSV26.out) pv zzz Hpv.out Hzzz.out (by rw [←Em2.out];exact Hm2.out)).mono ?_
  rintro e V267 ⟨rfl,hbN⟩
  have HSV267:=lH (HSV26.out.trans (hbN.mono HSV26.out.size))
  clear hbN
  clear HSV26
  go_simp
  refine hK.out _ _ (HSV267.out) (fun hHeld=>?_)
  clear hK K
  try simp only [aP]
  refine wpAnyH_ready (rs:=[10,11]) (by kernel_rfl) (by simp) ?_
  refine AllReadyH.cons (o:=⟨some 45,.call ⟨ .value (.func 55),#[.tmp 42,.tmp 44],#[67,67]⟩,67,_,_,none⟩) rfl (fun K hK=>?_) ?_
  go_simp
  refine (subE V267 (HM2.out.under HSV267.out) m2 j.y Hm2.out Hy.out (by rw [←Ear.out];exact Har.out)).mono ?_
  rintro e V267a ⟨rfl,hbN⟩
  have HSV267a:=lH (HSV267.out.trans (hbN.mono HSV267.out.size))
  clear hbN
  clear HSV267
  go_simp
  refine hK.out _ _ (HSV267a.out) (fun hHeld=>?_)
  clear hK K
  try simp only [aP]
  refine rdy 11 ⟨some 7,.alloc 67,0,_,_,none⟩ rfl (fun K hK=>?_)
  obtain ⟨V267ab,hN⟩:∃ W,W=V267a.alloc (.cells #[.int .u64 0,.int .u64 0,.int .u64 0,.int .u64 0] 67):=⟨_,rfl⟩
  go_simp
  rw [←hN]
  obtain ⟨g7,hg⟩:∃ g,g=V267a.heap.size:=⟨_,rfl⟩
  rw [←hg]
  have A7V267ab:Hid (NumOr V267ab g7 none):=lH (by rw [hN,hg];exact NumOr.fresh _)
  have HSV267ab:=lH (by rw [hN];exact HSV267a.out.alloc HSV267a.out.size _:Below u2.heap.size u2 V267ab)
  have HG7:Hid (u2.heap.size≤g7):=lH (by rw [hg];exact HSV267a.out.size)
  clear hN hg
  have HU0:=lH (show w.heap.size+1+1<g7 from (by have h1:=Holds.lt RB2.out;have h2:=HG7.out;omega))
  clear HSV267a
  refine hK.out _ _ (HSV267ab.out) (fun hHeld=>?_)
  clear hK K
  try simp only [aP]
  refine rdy 12 ⟨none,.store 67 (.tmp 7) (.tmp 45),0,_,_,none⟩ rfl (fun K hK=>?_)
  obtain ⟨zv0,zv1,zv2,zv3,⟨z0,o0⟩,⟨z1,o1⟩,⟨z2,o2⟩,⟨z3,o3⟩⟩:=NumOr.facts A7V267ab.out
  obtain ⟨V267abc,hN⟩:∃ W,W=((((V267ab.setCell ⟨g7,0,none⟩ (.int .u64 (ar0:Int))).setCell ⟨g7,1,none⟩ (.int .u64 (ar1:Int))).setCell ⟨g7,2,none⟩ (.int .u64 (ar2:Int))).setCell ⟨g7,3,none⟩ (.int .u64 (ar3:Int))):=⟨_,rfl⟩
  go_simp
  rw [←hN]
  have A7V267abc:Hid (NumOr V267abc g7 (some (en ar))):=lH (by rw [hN];exact NumOr.set A7V267ab.out Har.out)
  have HSV267abc:=lH (by rw [hN];exact below4 HSV267ab.out HG7.out _ _ _ _:Below u2.heap.size u2 V267abc)
  clear hN z0 o0 z1 o1 z2 o2 z3 o3 zv0 zv1 zv2 zv3
  clear HSV267ab A7V267ab
  refine hK.out _ _ (HSV267abc.out) (fun hHeld=>?_)
  clear hK K
  try simp only [aP]
  refine wpAnyH_done (by kernel_rfl) ?_ _
  refine NoPanic.normal ?_
  rw [HQ7.out]
  exact ⟨rfl,g7,rfl,rfl,HF.out _ HSV267abc.out,A7V267abc.out,HU0.out⟩
  refine AllReadyH.cons (o:=⟨some 7,.alloc 67,0,_,_,none⟩) rfl (fun K hK=>?_) AllReadyH.nil
  obtain ⟨V267b,hN⟩:∃ W,W=V267.alloc (.cells #[.int .u64 0,.int .u64 0,.int .u64 0,.int .u64 0] 67):=⟨_,rfl⟩
  go_simp
  rw [←hN]
  obtain ⟨g7,hg⟩:∃ g,g=V267.heap.size:=⟨_,rfl⟩
  rw [←hg]
  have A7V267b:Hid (NumOr V267b g7 none):=lH (by rw [hN,hg];exact NumOr.fresh _)
  have HSV267b:=lH (by rw [hN];exact HSV267.out.alloc HSV267.out.size _:Below u2.heap.size u2 V267b)
  have HG7:Hid (u2.heap.size≤g7):=lH (by rw [hg];exact HSV267.out.size)
  clear hN hg
  have HU0:=lH (show w.heap.size+1+1<g7 from (by have h1:=Holds.lt RB2.out;have h2:=HG7.out;omega))
  clear HSV267
  refine hK.out _ _ (HSV267b.out) (fun hHeld=>?_)
  clear hK K
  try simp only [aP]
  refine rdy 10 ⟨some 45,.call ⟨ .value (.func 55),#[.tmp 42,.tmp 44],#[67,67]⟩,67,_,_,none⟩ rfl (fun K hK=>?_)
  go_simp
  refine (subE V267b (HM2.out.under HSV267b.out) m2 j.y Hm2.out Hy.out (by rw [←Ear.out];exact Har.out)).mono ?_
  rintro e V267ba ⟨rfl,hbN⟩
  have HSV267ba:=lH (HSV267b.out.trans (hbN.mono HSV267b.out.size))
  have A7V267ba:Hid (NumOr V267ba g7 none):=lH (NumOr.under A7V267b.out hbN)
  clear hbN
  clear HSV267b A7V267b
  go_simp
  refine hK.out _ _ (HSV267ba.out) (fun hHeld=>?_)
  clear hK K
  try simp only [aP]
  refine rdy 12 ⟨none,.store 67 (.tmp 7) (.tmp 45),0,_,_,none⟩ rfl (fun K hK=>?_)
  obtain ⟨zv0,zv1,zv2,zv3,⟨z0,o0⟩,⟨z1,o1⟩,⟨z2,o2⟩,⟨z3,o3⟩⟩:=NumOr.facts A7V267ba.out
  obtain ⟨V267bac,hN⟩:∃ W,W=((((V267ba.setCell ⟨g7,0,none⟩ (.int .u64 (ar0:Int))).setCell ⟨g7,1,none⟩ (.int .u64 (ar1:Int))).setCell ⟨g7,2,none⟩ (.int .u64 (ar2:Int))).setCell ⟨g7,3,none⟩ (.int .u64 (ar3:Int))):=⟨_,rfl⟩
  go_simp
  rw [←hN]
  have A7V267bac:Hid (NumOr V267bac g7 (some (en ar))):=lH (by rw [hN];exact NumOr.set A7V267ba.out Har.out)
  have HSV267bac:=lH (by rw [hN];exact below4 HSV267ba.out HG7.out _ _ _ _:Below u2.heap.size u2 V267bac)
  clear hN z0 o0 z1 o1 z2 o2 z3 o3 zv0 zv1 zv2 zv3
  clear HSV267ba A7V267ba
  refine hK.out _ _ (HSV267bac.out) (fun hHeld=>?_)
  clear hK K
  try simp only [aP]
  refine wpAnyH_done (by kernel_rfl) ?_ _
  refine NoPanic.normal ?_
  rw [HQ7.out]
  exact ⟨rfl,g7,rfl,rfl,HF.out _ HSV267bac.out,A7V267bac.out,HU0.out⟩
  refine AllReadyH.cons (o:=⟨some 7,.alloc 67,0,_,_,none⟩) rfl (fun K hK=>?_) AllReadyH.nil
  obtain ⟨V26b,hN⟩:∃ W,W=V26.alloc (.cells #[.int .u64 0,.int .u64 0,.int .u64 0,.int .u64 0] 67):=⟨_,rfl⟩
  go_simp
  rw [←hN]
  obtain ⟨g7,hg⟩:∃ g,g=V26.heap.size:=⟨_,rfl⟩
  rw [←hg]
  have A7V26b:Hid (NumOr V26b g7 none):=lH (by rw [hN,hg];exact NumOr.fresh _)
  have HSV26b:=lH (by rw [hN];exact HSV26.out.alloc HSV26.out.size _:Below u2.heap.size u2 V26b)
  have HG7:Hid (u2.heap.size≤g7):=lH (by rw [hg];exact HSV26.out.size)
  clear hN hg
  have HU0:=lH (show w.heap.size+1+1<g7 from (by have h1:=Holds.lt RB2.out;have h2:=HG7.out;omega))
  clear HSV26
  refine hK.out _ _ (HSV26b.out) (fun hHeld=>?_)
  clear hK K
  try simp only [aP]
  refine rdy 7 ⟨some 42,.call ⟨ .value (.func 56),#[.tmp 37,.tmp 41],#[67,67]⟩,67,_,_,none⟩ rfl (fun K hK=>?_)
  go_simp
  refine (mulE V26b (HM2.out.under HSV26b.out) pv zzz Hpv.out Hzzz.out (by rw [←Em2.out];exact Hm2.out)).mono ?_
  rintro e V26b7 ⟨rfl,hbN⟩
  have HSV26b7:=lH (HSV26b.out.trans (hbN.mono HSV26b.out.size))
  have A7V26b7:Hid (NumOr V26b7 g7 none):=lH (NumOr.under A7V26b.out hbN)
  clear hbN
  clear HSV26b A7V26b
  go_simp
  refine hK.out _ _ (HSV26b7.out) (fun hHeld=>?_)
  clear hK K
  try simp only [aP]
  refine rdy 10 ⟨some 45,.call ⟨ .value (.func 55),#[.tmp 42,.tmp 44],#[67,67]⟩,67,_,_,none⟩ rfl (fun K hK=>?_)
  go_simp
  refine (subE V26b7 (HM2.out.under HSV26b7.out) m2 j.y Hm2.out Hy.out (by rw [←Ear.out];exact Har.out)).mono ?_
  rintro e V26b7a ⟨rfl,hbN⟩
  have HSV26b7a:=lH (HSV26b7.out.trans (hbN.mono HSV26b7.out.size))
  have A7V26b7a:Hid (NumOr V26b7a g7 none):=lH (NumOr.under A7V26b7.out hbN)
  clear hbN
  clear HSV26b7 A7V26b7
  go_simp
  refine hK.out _ _ (HSV26b7a.out) (fun hHeld=>?_)
  clear hK K
  try simp only [aP]
  refine rdy 12 ⟨none,.store 67 (.tmp 7) (.tmp 45),0,_,_,none⟩ rfl (fun K hK=>?_)
  obtain ⟨zv0,zv1,zv2,zv3,⟨z0,o0⟩,⟨z1,o1⟩,⟨z2,o2⟩,⟨z3,o3⟩⟩:=NumOr.facts A7V26b7a.out
  obtain ⟨V26b7ac,hN⟩:∃ W,W=((((V26b7a.setCell ⟨g7,0,none⟩ (.int .u64 (ar0:Int))).setCell ⟨g7,1,none⟩ (.int .u64 (ar1:Int))).setCell ⟨g7,2,none⟩ (.int .u64 (ar2:Int))).setCell ⟨g7,3,none⟩ (.int .u64 (ar3:Int))):=⟨_,rfl⟩
  go_simp
  rw [←hN]
  have A7V26b7ac:Hid (NumOr V26b7ac g7 (some (en ar))):=lH (by rw [hN];exact NumOr.set A7V26b7a.out Har.out)
  have HSV26b7ac:=lH (by rw [hN];exact below4 HSV26b7a.out HG7.out _ _ _ _:Below u2.heap.size u2 V26b7ac)
  clear hN z0 o0 z1 o1 z2 o2 z3 o3 zv0 zv1 zv2 zv3
  clear HSV26b7a A7V26b7a
  refine hK.out _ _ (HSV26b7ac.out) (fun hHeld=>?_)
  clear hK K
  try simp only [aP]
  refine wpAnyH_done (by kernel_rfl) ?_ _
  refine NoPanic.normal ?_
  rw [HQ7.out]
  exact ⟨rfl,g7,rfl,rfl,HF.out _ HSV26b7ac.out,A7V26b7ac.out,HU0.out⟩
  refine AllReadyH.cons (o:=⟨some 7,.alloc 67,0,_,_,none⟩) rfl (fun K hK=>?_) AllReadyH.nil
  obtain ⟨V2b,hN⟩:∃ W,W=V2.alloc (.cells #[.int .u64 0,.int .u64 0,.int .u64 0,.int .u64 0] 67):=⟨_,rfl⟩
  go_simp
  rw [←hN]
  obtain ⟨g7,hg⟩:∃ g,g=V2.heap.size:=⟨_,rfl⟩
  rw [←hg]
  have A7V2b:Hid (NumOr V2b g7 none):=lH (by rw [hN,hg];exact NumOr.fresh _)
  have HSV2b:=lH (by rw [hN];exact HSV2.out.alloc HSV2.out.size _:Below u2.heap.size u2 V2b)
  have HG7:Hid (u2.heap.size≤g7):=lH (by rw [hg];exact HSV2.out.size)
  clear hN hg
  have HU0:=lH (show w.heap.size+1+1<g7 from (by have h1:=Holds.lt RB2.out;have h2:=HG7.out;omega))
  clear HSV2
  refine hK.out _ _ (HSV2b.out) (fun hHeld=>?_)
  clear hK K
  try simp only [aP]
  refine rdy 6 ⟨some 41,.call ⟨ .value (.func 56),#[.tmp 38,.tmp 40],#[67,67]⟩,67,_,_,none⟩ rfl (fun K hK=>?_)
  go_simp
  refine (mulE V2b (HM2.out.under HSV2b.out) zz j.z Hzz.out Hz.out (by rw [←Ezzz.out];exact Hzzz.out)).mono ?_
  rintro e V2b6 ⟨rfl,hbN⟩
  have HSV2b6:=lH (HSV2b.out.trans (hbN.mono HSV2b.out.size))
  have A7V2b6:Hid (NumOr V2b6 g7 none):=lH (NumOr.under A7V2b.out hbN)
  clear hbN
  clear HSV2b A7V2b
  go_simp
  refine hK.out _ _ (HSV2b6.out) (fun hHeld=>?_)
  clear hK K
  try simp only [aP]
  refine rdy 7 ⟨some 42,.call ⟨ .value (.func 56),#[.tmp 37,.tmp 41],#[67,67]⟩,67,_,_,none⟩ rfl (fun K hK=>?_)
  go_simp
  refine (mulE V2b6 (HM2.out.under HSV2b6.out) pv zzz Hpv.out Hzzz.out (by rw [←Em2.out];exact Hm2.out)).mono ?_
  rintro e V2b67 ⟨rfl,hbN⟩
  have HSV2b67:=lH (HSV2b6.out.trans (hbN.mono HSV2b6.out.size))
  have A7V2b67:Hid (NumOr V2b67 g7 none):=lH (NumOr.under A7V2b6.out hbN)
  clear hbN
  clear HSV2b6 A7V2b6
  go_simp
  refine hK.out _ _ (HSV2b67.out) (fun hHeld=>?_)
  clear hK K
  try simp only [aP]
  refine rdy 10 ⟨some 45,.call ⟨ .value (.func 55),#[.tmp 42,.tmp 44],#[67,67]⟩,67,_,_,none⟩ rfl (fun K hK=>?_)
  go_simp
  refine (subE V2b67 (HM2.out.under HSV2b67.out) m2 j.y Hm2.out Hy.out (by rw [←Ear.out];exact Har.out)).mono ?_
  rintro e V2b67a ⟨rfl,hbN⟩
  have HSV2b67a:=lH (HSV2b67.out.trans (hbN.mono HSV2b67.out.size))
  have A7V2b67a:Hid (NumOr V2b67a g7 none):=lH (NumOr.under A7V2b67.out hbN)
  clear hbN
  clear HSV2b67 A7V2b67
  go_simp
  refine hK.out _ _ (HSV2b67a.out) (fun hHeld=>?_)
  clear hK K
  try simp only [aP]
  refine rdy 12 ⟨none,.store 67 (.tmp 7) (.tmp 45),0,_,_,none⟩ rfl (fun K hK=>?_)
  obtain ⟨zv0,zv1,zv2,zv3,⟨z0,o0⟩,⟨z1,o1⟩,⟨z2,o2⟩,⟨z3,o3⟩⟩:=NumOr.facts A7V2b67a.out
  obtain ⟨V2b67ac,hN⟩:∃ W,W=((((V2b67a.setCell ⟨g7,0,none⟩ (.int .u64 (ar0:Int))).setCell ⟨g7,1,none⟩ (.int .u64 (ar1:Int))).setCell ⟨g7,2,none⟩ (.int .u64 (ar2:Int))).setCell ⟨g7,3,none⟩ (.int .u64 (ar3:Int))):=⟨_,rfl⟩
  go_simp
  rw [←hN]
  have A7V2b67ac:Hid (NumOr V2b67ac g7 (some (en ar))):=lH (by rw [hN];exact NumOr.set A7V2b67a.out Har.out)
  have HSV2b67ac:=lH (by rw [hN];exact below4 HSV2b67a.out HG7.out _ _ _ _:Below u2.heap.size u2 V2b67ac)
  clear hN z0 o0 z1 o1 z2 o2 z3 o3 zv0 zv1 zv2 zv3
  clear HSV2b67a A7V2b67a
  refine hK.out _ _ (HSV2b67ac.out) (fun hHeld=>?_)
  clear hK K
  try simp only [aP]
  refine wpAnyH_done (by kernel_rfl) ?_ _
  refine NoPanic.normal ?_
  rw [HQ7.out]
  exact ⟨rfl,g7,rfl,rfl,HF.out _ HSV2b67ac.out,A7V2b67ac.out,HU0.out⟩
  refine AllReadyH.cons (o:=⟨some 7,.alloc 67,0,_,_,none⟩) rfl (fun K hK=>?_) AllReadyH.nil
  obtain ⟨Vb,hN⟩:∃ W,W=V.alloc (.cells #[.int .u64 0,.int .u64 0,.int .u64 0,.int .u64 0] 67):=⟨_,rfl⟩
  go_simp
  rw [←hN]
  obtain ⟨g7,hg⟩:∃ g,g=V.heap.size:=⟨_,rfl⟩
  rw [←hg]
  have A7Vb:Hid (NumOr Vb g7 none):=lH (by rw [hN,hg];exact NumOr.fresh _)
  have HSVb:=lH (by rw [hN];exact HSV.out.alloc HSV.out.size _:Below u2.heap.size u2 Vb)
  have HG7:Hid (u2.heap.size≤g7):=lH (by rw [hg];exact HSV.out.size)
  clear hN hg
  have HU0:=lH (show w.heap.size+1+1<g7 from (by have h1:=Holds.lt RB2.out;have h2:=HG7.out;omega))
  clear HSV
  refine hK.out _ _ (HSVb.out) (fun hHeld=>?_)
  clear hK K
  try simp only [aP]
  refine rdy 2 ⟨some 37,.call ⟨ .value (.func 54),#[.tmp 36],#[24]⟩,67,_,_,none⟩ rfl (fun K hK=>?_)
  go_simp
  refine (enterN Vb (HM2.out.under HSVb.out) u2.heap.size cy Ay ly HSVb.out.size (RY2.out.under HSVb.out) HLY.out HDY.out (show nm (enc (val ly))=_ by rw [HVY.out];exact Hpv.out)).mono ?_
  rintro e Vb2 ⟨rfl,hbN⟩
  have HSVb2:=lH (HSVb.out.trans (hbN.mono HSVb.out.size))
  have A7Vb2:Hid (NumOr Vb2 g7 none):=lH (NumOr.under A7Vb.out hbN)
  clear hbN
  clear HSVb A7Vb
  go_simp
  refine hK.out _ _ (HSVb2.out) (fun hHeld=>?_)
  clear hK K
  try simp only [aP]
  refine rdy 6 ⟨some 41,.call ⟨ .value (.func 56),#[.tmp 38,.tmp 40],#[67,67]⟩,67,_,_,none⟩ rfl (fun K hK=>?_)
  go_simp
  refine (mulE Vb2 (HM2.out.under HSVb2.out) zz j.z Hzz.out Hz.out (by rw [←Ezzz.out];exact Hzzz.out)).mono ?_
  rintro e Vb26 ⟨rfl,hbN⟩
  have HSVb26:=lH (HSVb2.out.trans (hbN.mono HSVb2.out.size))
  have A7Vb26:Hid (NumOr Vb26 g7 none):=lH (NumOr.under A7Vb2.out hbN)
  clear hbN
  clear HSVb2 A7Vb2
  go_simp
  refine hK.out _ _ (HSVb26.out) (fun hHeld=>?_)
  clear hK K
  try simp only [aP]
  refine rdy 7 ⟨some 42,.call ⟨ .value (.func 56),#[.tmp 37,.tmp 41],#[67,67]⟩,67,_,_,none⟩ rfl (fun K hK=>?_)
  go_simp
  refine (mulE Vb26 (HM2.out.under HSVb26.out) pv zzz Hpv.out Hzzz.out (by rw [←Em2.out];exact Hm2.out)).mono ?_
  rintro e Vb267 ⟨rfl,hbN⟩
  have HSVb267:=lH (HSVb26.out.trans (hbN.mono HSVb26.out.size))
  have A7Vb267:Hid (NumOr Vb267 g7 none):=lH (NumOr.under A7Vb26.out hbN)
  clear hbN
  clear HSVb26 A7Vb26
  go_simp
  refine hK.out _ _ (HSVb267.out) (fun hHeld=>?_)
  clear hK K
  try simp only [aP]
  refine rdy 10 ⟨some 45,.call ⟨ .value (.func 55),#[.tmp 42,.tmp 44],#[67,67]⟩,67,_,_,none⟩ rfl (fun K hK=>?_)
  go_simp
  refine (subE Vb267 (HM2.out.under HSVb267.out) m2 j.y Hm2.out Hy.out (by rw [←Ear.out];exact Har.out)).mono ?_
  rintro e Vb267a ⟨rfl,hbN⟩
  have HSVb267a:=lH (HSVb267.out.trans (hbN.mono HSVb267.out.size))
  have A7Vb267a:Hid (NumOr Vb267a g7 none):=lH (NumOr.under A7Vb267.out hbN)
  clear hbN
  clear HSVb267 A7Vb267
  go_simp
  refine hK.out _ _ (HSVb267a.out) (fun hHeld=>?_)
  clear hK K
  try simp only [aP]
  refine rdy 12 ⟨none,.store 67 (.tmp 7) (.tmp 45),0,_,_,none⟩ rfl (fun K hK=>?_)
  obtain ⟨zv0,zv1,zv2,zv3,⟨z0,o0⟩,⟨z1,o1⟩,⟨z2,o2⟩,⟨z3,o3⟩⟩:=NumOr.facts A7Vb267a.out
  obtain ⟨Vb267ac,hN⟩:∃ W,W=((((Vb267a.setCell ⟨g7,0,none⟩ (.int .u64 (ar0:Int))).setCell ⟨g7,1,none⟩ (.int .u64 (ar1:Int))).setCell ⟨g7,2,none⟩ (.int .u64 (ar2:Int))).setCell ⟨g7,3,none⟩ (.int .u64 (ar3:Int))):=⟨_,rfl⟩
  go_simp
  rw [←hN]
  have A7Vb267ac:Hid (NumOr Vb267ac g7 (some (en ar))):=lH (by rw [hN];exact NumOr.set A7Vb267a.out Har.out)
  have HSVb267ac:=lH (by rw [hN];exact below4 HSVb267a.out HG7.out _ _ _ _:Below u2.heap.size u2 Vb267ac)
  clear hN z0 o0 z1 o1 z2 o2 z3 o3 zv0 zv1 zv2 zv3
  clear HSVb267a A7Vb267a
  refine hK.out _ _ (HSVb267ac.out) (fun hHeld=>?_)
  clear hK K
  try simp only [aP]
  refine wpAnyH_done (by kernel_rfl) ?_ _
  refine NoPanic.normal ?_
  rw [HQ7.out]
  exact ⟨rfl,g7,rfl,rfl,HF.out _ HSVb267ac.out,A7Vb267ac.out,HU0.out⟩
 rintro e a u3 hq
 rw [HQ7.out] at hq
 obtain ⟨rfl,g7,htm,hdf,hst⟩:=hq
 have ST3:=lH hst
 clear hst HQ7 ST2
 obtain ⟨tm,df⟩:=a
 dsimp only at htm hdf
 subst hdf
 obtain ⟨U,hU⟩:∃ U:Nat→Value,∀ i,tm.getD i undef=U i:=⟨_,fun _=>rfl⟩
 simp only [tG,hU] at htm
 clear hU
 subst htm
 by_cases hcz:ah=0
 ·have BX3:=lH (ST3.out.1.1.1.1)
  have RB3:=lH (ST3.out.1.1.1.2.1)
  have HB3:=lH (ST3.out.1.1.1.2.2.1)
  have HM3:=lH (ST3.out.1.1.1.2.2.2.1)
  have L6_3:=lH (ST3.out.1.2.1)
  have L7_3:=lH (ST3.out.2.1)
  have Hx:=lH (FV.out.2.2.2.2.2.2.2.1)
  have Hy:=lH (FV.out.2.2.2.2.2.2.2.2.1)
  have Hz:=lH (FV.out.2.2.2.2.2.2.2.2.2.1)
  have PX:=lH (FV.out.2.2.2.2.2.2.2.2.2.2.1)
  have PY:=lH (FV.out.2.2.2.2.2.2.2.2.2.2.2.1)
  have PZ:=lH (FV.out.2.2.2.2.2.2.2.2.2.2.2.2)
  have HZN:=lH (FU.out.1)
  have Ezz:=lH (FU.out.2.2.2.1)
  have Em1:=lH (FU.out.2.2.2.2.1)
  have Eah:=lH (FU.out.2.2.2.2.2.1)
  have Ezzz:=lH (FU.out.2.2.2.2.2.2.1)
  have Em2:=lH (FU.out.2.2.2.2.2.2.2.1)
  have Ear:=lH (FU.out.2.2.2.2.2.2.2.2.1)
  have Hah:=lH (FU.out.2.2.2.2.2.2.2.2.2.2.2.1)
  have Har:=lH (FU.out.2.2.2.2.2.2.2.2.2.2.2.2.2.2)
  clear ST3 FV FU
  have hEH:∀ W,(Op.equalIn 10000 67 (.agg #[.int .u64 (ah0:Int),.int .u64 (ah1:Int),.int .u64 (ah2:Int),.int .u64 (ah3:Int)]) (.agg #[.int .u64 0,.int .u64 0,.int .u64 0,.int .u64 0])).run Tryd.prog W = .ok true W:=fun W=>(eqE W ah 0 Hah.out dig0).trans (by rw [decide_eq_true hcz])
  obtain ⟨p60,p61,p62,p63⟩:=L6_3.out.cells Hah.out
  obtain ⟨p70,p71,p72,p73⟩:=L7_3.out.cells Har.out
  by_cases hr0:ar=0
  ·have hER:∀ W,(Op.equalIn 10000 67 (.agg #[.int .u64 (ar0:Int),.int .u64 (ar1:Int),.int .u64 (ar2:Int),.int .u64 (ar3:Int)]) (.agg #[.int .u64 0,.int .u64 0,.int .u64 0,.int .u64 0])).run Tryd.prog W = .ok true W:=fun W=>(eqE W ar 0 Har.out dig0).trans (by rw [decide_eq_true hr0])
   have HPL:Hid (Luc.pls j pu pv=Luc.dbl j):=lH (by
    unfold Luc.pls
    rw [if_neg HZN.out]
    simp only
    rw [if_pos (by rw [←Ezz.out,←Em1.out,←Eah.out];exact hcz),if_pos (by rw [←Ezz.out,←Ezzz.out,←Em2.out,←Ear.out];exact hr0)])
   have hBB:=BX3.out
   have k0:=hBB.cell 0
   have k1:=hBB.cell 1
   have k2:=hBB.cell 2
   have k3:=hBB.cell 3
   have k4:=hBB.cell 4
   have k5:=hBB.cell 5
   have k6:=hBB.cell 6
   have k7:=hBB.cell 7
   have k8:=hBB.cell 8
   have k9:=hBB.cell 9
   have k10:=hBB.cell 10
   have k11:=hBB.cell 11
   clear hBB
   have HDB:=lH (doubleE u3 HM3.out j Hx.out Hy.out Hz.out (by rw [←HPL.out];exact PX.out) (by rw [←HPL.out];exact PY.out) (by rw [←HPL.out];exact PZ.out))
   go_step
   go_wp2_with fail
   go_simp
   go_wp2_with fail
   go_simp
   go_wp2_with fail
   refine HDB.out.mono ?_
   rintro e uE ⟨rfl,hbN⟩
   have HR:=lH (RB3.out.under hbN (Holds.lt RB3.out))
   have HB:=lH (HB3.out.trans (hbN.mono HB3.out.size))
   clear hbN hEH hER p60 p61 p62 p63 p70 p71 p72 p73 k0 k1 k2 k3 k4 k5 k6 k7 k8 k9 k10 k11
   have z0:=HR.out.cell 0
   have o0:=HR.out.open_ 0
   have z1:=HR.out.cell 1
   have o1:=HR.out.open_ 1
   have z2:=HR.out.cell 2
   have o2:=HR.out.open_ 2
   have z3:=HR.out.cell 3
   have o3:=HR.out.open_ 3
   have z4:=HR.out.cell 4
   have o4:=HR.out.open_ 4
   have z5:=HR.out.cell 5
   have o5:=HR.out.open_ 5
   have z6:=HR.out.cell 6
   have o6:=HR.out.open_ 6
   have z7:=HR.out.cell 7
   have o7:=HR.out.open_ 7
   have z8:=HR.out.cell 8
   have o8:=HR.out.open_ 8
   have z9:=HR.out.cell 9
   have o9:=HR.out.open_ 9
   have z10:=HR.out.cell 10
   have o10:=HR.out.open_ 10
   have z11:=HR.out.cell 11
   have o11:=HR.out.open_ 11
   go_wp2_with fail
   exact ret_wd (g:=w.heap.size+1+1) rfl rfl (set12 HR.out _ _ _ _ _ _ _ _ _ _ _ _) rfl ⟨rfl,below12 HB.out (by omega) _ _ _ _ _ _ _ _ _ _ _ _⟩
  ·have hER:∀ W,(Op.equalIn 10000 67 (.agg #[.int .u64 (ar0:Int),.int .u64 (ar1:Int),.int .u64 (ar2:Int),.int .u64 (ar3:Int)]) (.agg #[.int .u64 0,.int .u64 0,.int .u64 0,.int .u64 0])).run Tryd.prog W = .ok false W:=fun W=>(eqE W ar 0 Har.out dig0).trans (by rw [decide_eq_false hr0])
   have HPL:Hid (Luc.pls j pu pv=⟨0,0,0⟩):=lH (by
    unfold Luc.pls
    rw [if_neg HZN.out]
    simp only
    rw [if_pos (by rw [←Ezz.out,←Em1.out,←Eah.out];exact hcz),if_neg (by rw [←Ezz.out,←Ezzz.out,←Em2.out,←Ear.out];exact hr0)])
   have HR:=RB3
   have HB:=HB3
   have DX:Hid ([X0,X1,X2,X3]=[0,0,0,0]):=lH (by rw [←PX.out,HPL.out];exact dig0)
   have DY:Hid ([Y0,Y1,Y2,Y3]=[0,0,0,0]):=lH (by rw [←PY.out,HPL.out];exact dig0)
   have DZ:Hid ([Z0,Z1,Z2,Z3]=[0,0,0,0]):=lH (by rw [←PZ.out,HPL.out];exact dig0)
   have z0:=HR.out.cell 0
   have o0:=HR.out.open_ 0
   have z1:=HR.out.cell 1
   have o1:=HR.out.open_ 1
   have z2:=HR.out.cell 2
   have o2:=HR.out.open_ 2
   have z3:=HR.out.cell 3
   have o3:=HR.out.open_ 3
   have z4:=HR.out.cell 4
   have o4:=HR.out.open_ 4
   have z5:=HR.out.cell 5
   have o5:=HR.out.open_ 5
   have z6:=HR.out.cell 6
   have o6:=HR.out.open_ 6
   have z7:=HR.out.cell 7
   have o7:=HR.out.open_ 7
   have z8:=HR.out.cell 8
   have o8:=HR.out.open_ 8
   have z9:=HR.out.cell 9
   have o9:=HR.out.open_ 9
   have z10:=HR.out.cell 10
   have o10:=HR.out.open_ 10
   have z11:=HR.out.cell 11
   have o11:=HR.out.open_ 11
   go_step
   go_wp2_with fail
   go_simp
   go_wp2_with fail
   go_simp
   go_wp2_with fail
   refine ret_wd (g:=w.heap.size+1+1) rfl rfl (set12 HR.out _ _ _ _ _ _ _ _ _ _ _ _) rfl ⟨?_,below12 HB.out (by omega) _ _ _ _ _ _ _ _ _ _ _ _⟩
   have dx:=DX.out
   have dy:=DY.out
   have dz:=DZ.out
   simp only [List.cons.injEq,and_true] at dx dy dz
   obtain ⟨rfl,rfl,rfl,rfl⟩:=dx
   obtain ⟨rfl,rfl,rfl,rfl⟩:=dy
   obtain ⟨rfl,rfl,rfl,rfl⟩:=dz
   rfl
 obtain ⟨bh,eq_bh⟩:∃ v,v=ah*ah:=⟨_,rfl⟩
 obtain ⟨ch,eq_ch⟩:∃ v,v=bh*ah:=⟨_,rfl⟩
 obtain ⟨vv,eq_vv⟩:∃ v,v=j.x*bh:=⟨_,rfl⟩
 obtain ⟨rr,eq_rr⟩:∃ v,v=ar*ar:=⟨_,rfl⟩
 obtain ⟨s1,eq_s1⟩:∃ v,v=rr - ch:=⟨_,rfl⟩
 obtain ⟨v2,eq_v2⟩:∃ v,v=vv+vv:=⟨_,rfl⟩
 obtain ⟨X,eq_X⟩:∃ v,v=s1 - v2:=⟨_,rfl⟩
 obtain ⟨vx,eq_vx⟩:∃ v,v=vv - X:=⟨_,rfl⟩
 obtain ⟨rv,eq_rv⟩:∃ v,v=ar*vx:=⟨_,rfl⟩
 obtain ⟨yh,eq_yh⟩:∃ v,v=j.y*ch:=⟨_,rfl⟩
 obtain ⟨Y,eq_Y⟩:∃ v,v=rv - yh:=⟨_,rfl⟩
 obtain ⟨Z,eq_Z⟩:∃ v,v=j.z*ah:=⟨_,rfl⟩
 obtain ⟨bh0,bh1,bh2,bh3,dg_bh⟩:=four (nm_len (en bh))
 obtain ⟨ch0,ch1,ch2,ch3,dg_ch⟩:=four (nm_len (en ch))
 obtain ⟨vv0,vv1,vv2,vv3,dg_vv⟩:=four (nm_len (en vv))
 obtain ⟨rr0,rr1,rr2,rr3,dg_rr⟩:=four (nm_len (en rr))
 obtain ⟨s10,s11,s12,s13,dg_s1⟩:=four (nm_len (en s1))
 obtain ⟨v20,v21,v22,v23,dg_v2⟩:=four (nm_len (en v2))
 obtain ⟨vx0,vx1,vx2,vx3,dg_vx⟩:=four (nm_len (en vx))
 obtain ⟨rv0,rv1,rv2,rv3,dg_rv⟩:=four (nm_len (en rv))
 obtain ⟨yh0,yh1,yh2,yh3,dg_yh⟩:=four (nm_len (en yh))
 have HPL:Hid (Luc.pls j pu pv=⟨X,Y,Z⟩):=lH (by
  unfold Luc.pls
  rw [if_neg FU.out.1]
  simp only
  rw [←FU.out.2.2.2.1,←FU.out.2.2.2.2.1,←FU.out.2.2.2.2.2.1,if_neg hcz,←FU.out.2.2.2.2.2.2.1,←FU.out.2.2.2.2.2.2.2.1,←FU.out.2.2.2.2.2.2.2.2.1,←eq_bh,←eq_ch,←eq_vv,←eq_rr,←eq_s1,←eq_v2,←eq_X,←eq_vx,←eq_rv,←eq_yh,←eq_Y,←eq_Z])
 have dg_X:nm (en X)=[X0,X1,X2,X3]:=by rw [←FV.out.2.2.2.2.2.2.2.2.2.2.1,HPL.out]
 have dg_Y:nm (en Y)=[Y0,Y1,Y2,Y3]:=by rw [←FV.out.2.2.2.2.2.2.2.2.2.2.2.1,HPL.out]
 have dg_Z:nm (en Z)=[Z0,Z1,Z2,Z3]:=by rw [←FV.out.2.2.2.2.2.2.2.2.2.2.2.2,HPL.out]
 have FW:Hid ((bh=ah*ah)∧(ch=bh*ah)∧(vv=j.x*bh)∧(rr=ar*ar)∧(s1=rr - ch)∧(v2=vv+vv)∧(X=s1 - v2)∧(vx=vv - X)∧(rv=ar*vx)∧(yh=j.y*ch)∧(Y=rv - yh)∧(Z=j.z*ah)∧(nm (en bh)=[bh0,bh1,bh2,bh3])∧(nm (en ch)=[ch0,ch1,ch2,ch3])∧(nm (en vv)=[vv0,vv1,vv2,vv3])∧(nm (en rr)=[rr0,rr1,rr2,rr3])∧(nm (en s1)=[s10,s11,s12,s13])∧(nm (en v2)=[v20,v21,v22,v23])∧(nm (en X)=[X0,X1,X2,X3])∧(nm (en vx)=[vx0,vx1,vx2,vx3])∧(nm (en rv)=[rv0,rv1,rv2,rv3])∧(nm (en yh)=[yh0,yh1,yh2,yh3])∧(nm (en Y)=[Y0,Y1,Y2,Y3])∧(nm (en Z)=[Z0,Z1,Z2,Z3])):=lH ⟨eq_bh,eq_ch,eq_vv,eq_rr,eq_s1,eq_v2,eq_X,eq_vx,eq_rv,eq_yh,eq_Y,eq_Z,dg_bh,dg_ch,dg_vv,dg_rr,dg_s1,dg_v2,dg_X,dg_vx,dg_rv,dg_yh,dg_Y,dg_Z⟩
 clear HPL eq_bh dg_bh eq_ch dg_ch eq_vv dg_vv eq_rr dg_rr eq_s1 dg_s1 eq_v2 dg_v2 eq_X dg_X eq_vx dg_vx eq_rv dg_rv eq_yh dg_yh eq_Y dg_Y eq_Z dg_Z
 have BX3:=lH (ST3.out.1.1.1.1)
 have RB3:=lH (ST3.out.1.1.1.2.1)
 have HB3:=lH (ST3.out.1.1.1.2.2.1)
 have HM3:=lH (ST3.out.1.1.1.2.2.2.1)
 have PB3:=lH (ST3.out.1.1.1.2.2.2.2.1)
 have RX3:=lH (ST3.out.1.1.1.2.2.2.2.2.1)
 have RY3:=lH (ST3.out.1.1.1.2.2.2.2.2.2)
 have L5_3:=lH (ST3.out.1.1.2.1)
 have NB_5:=lH (ST3.out.1.1.2.2)
 have L6_3:=lH (ST3.out.1.2.1)
 have NB_6:=lH (ST3.out.1.2.2)
 have L7_3:=lH (ST3.out.2.1)
 have NB_7:=lH (ST3.out.2.2)
 have Hah:=lH (FU.out.2.2.2.2.2.2.2.2.2.2.2.1)
 have Ebh:=lH (FW.out.1)
 have Hbh:=lH (FW.out.2.2.2.2.2.2.2.2.2.2.2.2.1)
 obtain ⟨p60,p61,p62,p63⟩:=L6_3.out.cells Hah.out
 have hEH:∀ W,(Op.equalIn 10000 67 (.agg #[.int .u64 (ah0:Int),.int .u64 (ah1:Int),.int .u64 (ah2:Int),.int .u64 (ah3:Int)]) (.agg #[.int .u64 0,.int .u64 0,.int .u64 0,.int .u64 0])).run Tryd.prog W = .ok false W:=fun W=>(eqE W ah 0 Hah.out dig0).trans (by rw [decide_eq_false hcz])
 go_step
 go_wp2_with fail
 go_simp
 go_wp2_with fail
 have hbq0:Below u3.heap.size u3 u3:=Below.refl _ _
 refine (mulE u3 (HM3.out.under hbq0) ah ah Hah.out Hah.out (by rw [←Ebh.out];exact Hbh.out)).mono ?_
 rintro e c12_0 ⟨rfl,hbN⟩
 have hbq1:=hbq0.trans (hbN.mono hbq0.size)
 clear hbN hbq0
 clear p60 p61 p62 p63 hEH
 go_wp2_with fail
 obtain ⟨u4,hu⟩:∃ W,W=c12_0.alloc (.cells #[.int .u64 (bh0:Int),.int .u64 (bh1:Int),.int .u64 (bh2:Int),.int .u64 (bh3:Int)] 67):=⟨_,rfl⟩
 obtain ⟨g8,hg⟩:∃ g,g=c12_0.heap.size:=⟨_,rfl⟩
 rw [←hu,←hg]
 have hle:u3.heap.size≤g8:=by rw [hg];exact hbq1.size
 have hbk:Below u3.heap.size u3 u4:=by rw [hu];exact hbq1.alloc hbq1.size _
 have hnew:NumOr u4 g8 (some (en bh)):=by
  show Holds _ _ _ (nums .u64 (nm (en bh)))
  rw [nv_of Hbh.out,hu,hg]
  exact Holds.fresh _ _ _
 have ST4:Hid ((((((Holds u4 w.heap.size 69 #[.int .u64 (x0:Int),.int .u64 (x1:Int),.int .u64 (x2:Int),.int .u64 (x3:Int),.int .u64 (y0:Int),.int .u64 (y1:Int),.int .u64 (y2:Int),.int .u64 (y3:Int),.int .u64 (z0:Int),.int .u64 (z1:Int),.int .u64 (z2:Int),.int .u64 (z3:Int)])∧(Holds u4 (w.heap.size+1+1) 69 #[.int .u64 0,.int .u64 0,.int .u64 0,.int .u64 0,.int .u64 0,.int .u64 0,.int .u64 0,.int .u64 0,.int .u64 0,.int .u64 0,.int .u64 0,.int .u64 0])∧(Below w.heap.size w u4)∧(CMet u4)∧(Holds u4 (w.heap.size+1) 26 #[.slice Ax lx.length cx,.slice Ay ly.length cy,.bool false])∧(Rd .u32 u4 u4.heap.size Ax cx lx)∧(Rd .u32 u4 u4.heap.size Ay cy ly))∧(NumOr u4 g5 (some (en zz)))∧(w.heap.size+1+1<g5))∧(NumOr u4 g6 (some (en ah)))∧(w.heap.size+1+1<g6))∧(NumOr u4 g7 (some (en ar)))∧(w.heap.size+1+1<g7))∧(NumOr u4 g8 (some (en bh)))∧(w.heap.size+1+1<g8)):=lH ⟨⟨⟨⟨⟨BX3.out.under hbk (Holds.lt BX3.out),RB3.out.under hbk (Holds.lt RB3.out),HB3.out.trans (hbk.mono HB3.out.size),HM3.out.under hbk,PB3.out.under hbk (Holds.lt PB3.out),(RX3.out.under hbk).more hbk.size,(RY3.out.under hbk).more hbk.size⟩,NumOr.under L5_3.out hbk,NB_5.out⟩,NumOr.under L6_3.out hbk,NB_6.out⟩,NumOr.under L7_3.out hbk,NB_7.out⟩,hnew,(by have h1:=Holds.lt RB3.out;have h2:=hle;omega)⟩
 clear hle hbk hnew hu hg hbq1 BX3 RB3 HB3 HM3 PB3 RX3 RY3 L5_3 NB_5 L6_3 NB_6 L7_3 NB_7 Hah Ebh Hbh ST3
 obtain ⟨QQ13,HQ13⟩:∃ Q:Exit→Act→World→Prop,Hid (Q=fun e a W=>e = .normal∧∃ (g9 g10:Nat),a.tmps=#[tG a 0,tG a 1,.pointer (some ⟨w.heap.size,0,none⟩),.pointer (some ⟨w.heap.size+1,0,none⟩),.pointer (some ⟨w.heap.size+1+1,0,none⟩),.pointer (some ⟨g5,0,none⟩),.pointer (some ⟨g6,0,none⟩),.pointer (some ⟨g7,0,none⟩),.pointer (some ⟨g8,0,none⟩),.pointer (some ⟨g9,0,none⟩),.pointer (some ⟨g10,0,none⟩),tG a 11,tG a 12,tG a 13,tG a 14,tG a 15,tG a 16,tG a 17,tG a 18,tG a 19,tG a 20,tG a 21,tG a 22,tG a 23,tG a 24,tG a 25,tG a 26,tG a 27,tG a 28,tG a 29,tG a 30,tG a 31,tG a 32,tG a 33,tG a 34,tG a 35,tG a 36,tG a 37,tG a 38,tG a 39,tG a 40,tG a 41,tG a 42,tG a 43,tG a 44,tG a 45,tG a 46,tG a 47,tG a 48,tG a 49,tG a 50,tG a 51,tG a 52,tG a 53,tG a 54,tG a 55,tG a 56,tG a 57,tG a 58,tG a 59,tG a 60,tG a 61,tG a 62,tG a 63,tG a 64,tG a 65,tG a 66,tG a 67,tG a 68,tG a 69,tG a 70,tG a 71,tG a 72,tG a 73,tG a 74,tG a 75,tG a 76,tG a 77,tG a 78,tG a 79,tG a 80,tG a 81,tG a 82,tG a 83,tG a 84,tG a 85,tG a 86,tG a 87,tG a 88,tG a 89]∧a.defers=[]∧((((((Holds W w.heap.size 69 #[.int .u64 (x0:Int),.int .u64 (x1:Int),.int .u64 (x2:Int),.int .u64 (x3:Int),.int .u64 (y0:Int),.int .u64 (y1:Int),.int .u64 (y2:Int),.int .u64 (y3:Int),.int .u64 (z0:Int),.int .u64 (z1:Int),.int .u64 (z2:Int),.int .u64 (z3:Int)])∧(Holds W (w.heap.size+1+1) 69 #[.int .u64 0,.int .u64 0,.int .u64 0,.int .u64 0,.int .u64 0,.int .u64 0,.int .u64 0,.int .u64 0,.int .u64 0,.int .u64 0,.int .u64 0,.int .u64 0])∧(Below w.heap.size w W)∧(CMet W)∧(Holds W (w.heap.size+1) 26 #[.slice Ax lx.length cx,.slice Ay ly.length cy,.bool false])∧(Rd .u32 W W.heap.size Ax cx lx)∧(Rd .u32 W W.heap.size Ay cy ly))∧(NumOr W g5 (some (en zz)))∧(w.heap.size+1+1<g5))∧(NumOr W g6 (some (en ah)))∧(w.heap.size+1+1<g6))∧(NumOr W g7 (some (en ar)))∧(w.heap.size+1+1<g7))∧(NumOr W g8 (some (en bh)))∧(w.heap.size+1+1<g8))∧(NumOr W g9 (some (en ch)))∧(NumOr W g10 (some (en vv)))∧(w.heap.size+1+1<g9)∧(w.heap.size+1+1<g10)):=⟨_,lH rfl⟩
 refine Code.wp_mono (Q:=QQ13) ?_ ?_
 rotate_left 1
 ·have BX4:=lH (ST4.out.1.1.1.1.1)
  have RB4:=lH (ST4.out.1.1.1.1.2.1)
  have HB4:=lH (ST4.out.1.1.1.1.2.2.1)
  have HM4:=lH (ST4.out.1.1.1.1.2.2.2.1)
  have PB4:=lH (ST4.out.1.1.1.1.2.2.2.2.1)
  have RX4:=lH (ST4.out.1.1.1.1.2.2.2.2.2.1)
  have RY4:=lH (ST4.out.1.1.1.1.2.2.2.2.2.2)
  have L5_4:=lH (ST4.out.1.1.1.2.1)
  have NB_5:=lH (ST4.out.1.1.1.2.2)
  have L6_4:=lH (ST4.out.1.1.2.1)
  have NB_6:=lH (ST4.out.1.1.2.2)
  have L7_4:=lH (ST4.out.1.2.1)
  have NB_7:=lH (ST4.out.1.2.2)
  have L8_4:=lH (ST4.out.2.1)
  have NB_8:=lH (ST4.out.2.2)
  have Hx:=lH (FV.out.2.2.2.2.2.2.2.1)
  have Hah:=lH (FU.out.2.2.2.2.2.2.2.2.2.2.2.1)
  have Ech:=lH (FW.out.2.1)
  have Evv:=lH (FW.out.2.2.1)
  have Hbh:=lH (FW.out.2.2.2.2.2.2.2.2.2.2.2.2.1)
  have Hch:=lH (FW.out.2.2.2.2.2.2.2.2.2.2.2.2.2.1)
  have Hvv:=lH (FW.out.2.2.2.2.2.2.2.2.2.2.2.2.2.2.1)
  clear ST4 FV FU FW
  have HF:Hid (∀ W,Below u4.heap.size u4 W→(((((Holds W w.heap.size 69 #[.int .u64 (x0:Int),.int .u64 (x1:Int),.int .u64 (x2:Int),.int .u64 (x3:Int),.int .u64 (y0:Int),.int .u64 (y1:Int),.int .u64 (y2:Int),.int .u64 (y3:Int),.int .u64 (z0:Int),.int .u64 (z1:Int),.int .u64 (z2:Int),.int .u64 (z3:Int)])∧(Holds W (w.heap.size+1+1) 69 #[.int .u64 0,.int .u64 0,.int .u64 0,.int .u64 0,.int .u64 0,.int .u64 0,.int .u64 0,.int .u64 0,.int .u64 0,.int .u64 0,.int .u64 0,.int .u64 0])∧(Below w.heap.size w W)∧(CMet W)∧(Holds W (w.heap.size+1) 26 #[.slice Ax lx.length cx,.slice Ay ly.length cy,.bool false])∧(Rd .u32 W W.heap.size Ax cx lx)∧(Rd .u32 W W.heap.size Ay cy ly))∧(NumOr W g5 (some (en zz)))∧(w.heap.size+1+1<g5))∧(NumOr W g6 (some (en ah)))∧(w.heap.size+1+1<g6))∧(NumOr W g7 (some (en ar)))∧(w.heap.size+1+1<g7))∧(NumOr W g8 (some (en bh)))∧(w.heap.size+1+1<g8)):=lH fun W h=>⟨⟨⟨⟨⟨BX4.out.under h (Holds.lt BX4.out),RB4.out.under h (Holds.lt RB4.out),HB4.out.trans (h.mono HB4.out.size),HM4.out.under h,PB4.out.under h (Holds.lt PB4.out),(RX4.out.under h).more h.size,(RY4.out.under h).more h.size⟩,NumOr.under L5_4.out h,NB_5.out⟩,NumOr.under L6_4.out h,NB_6.out⟩,NumOr.under L7_4.out h,NB_7.out⟩,NumOr.under L8_4.out h,NB_8.out⟩
  refine wp_region_noPanic ?_
  refine wp_region_held_drew (S:=fun W=>Below u4.heap.size u4 W) (by kernel_rfl) ((Below.refl _ u4).drew) (fun hHeld=>?_)
  obtain ⟨V,hV⟩:∃ W,W=u4.drew:=⟨_,rfl⟩
  rw [←hV]
  have HSV:Hid (Below u4.heap.size u4 V):=lH (by rw [hV];exact (Below.refl _ u4).drew)
  replace hHeld:(fun W=>Below u4.heap.size u4 W) V:=HSV.out
  clear hV
  refine tk 0 ⟨some 58,.load 67 (.tmp 8),67,_,_,none⟩ ?_ rfl ?_ hHeld ?_
  rotate_left 1
  ·(intro W hW;have hBC:=(NumOr.under L8_4.out hW).cells Hbh.out;obtain ⟨q0,q1,q2,q3⟩:=hBC;(try dsimp only at hW);go_simp;try with_reducible rfl)
  try simp only [aP]
  refine tk 1 ⟨some 59,.load 67 (.tmp 6),67,_,_,none⟩ ?_ rfl ?_ hHeld ?_
  rotate_left 1
  ·(intro W hW;have hBC:=(NumOr.under L6_4.out hW).cells Hah.out;obtain ⟨q0,q1,q2,q3⟩:=hBC;(try dsimp only at hW);go_simp;try with_reducible rfl)
  try simp only [aP]
  refine tk 3 ⟨some 61,.fieldAddr 69 (.tmp 2) 0,0,_,_,none⟩ ?_ rfl ?_ hHeld ?_
  rotate_left 1
  ·(intro W hW;(try dsimp only at hW);go_simp;try with_reducible rfl)
  try simp only [aP]
  refine tk 4 ⟨some 62,.load 67 (.tmp 61),67,_,_,none⟩ ?_ rfl ?_ hHeld ?_
  rotate_left 1
  ·(intro W hW;have hBB:=BX4.out.under hW (Holds.lt BX4.out);have k0:=hBB.cell 0;have k1:=hBB.cell 1;have k2:=hBB.cell 2;have k3:=hBB.cell 3;(try dsimp only at hW);go_simp;try with_reducible rfl)
  try simp only [aP]
  refine tk 5 ⟨some 63,.load 67 (.tmp 8),67,_,_,none⟩ ?_ rfl ?_ hHeld ?_
  rotate_left 1
  ·(intro W hW;have hBC:=(NumOr.under L8_4.out hW).cells Hbh.out;obtain ⟨q0,q1,q2,q3⟩:=hBC;(try dsimp only at hW);go_simp;try with_reducible rfl)
  try simp only [aP]
  refine wpAnyH_ready (rs:=[2,7,8]) (by kernel_rfl) (by simp) ?_
  refine AllReadyH.cons (o:=⟨some 60,.call ⟨ .value (.func 56),#[.tmp 58,.tmp 59],#[67,67]⟩,67,_,_,none⟩) rfl (fun K hK=>?_) ?_
  go_simp
  refine (mulE V (HM4.out.under HSV.out) bh ah Hbh.out Hah.out (by rw [←Ech.out];exact Hch.out)).mono ?_
  rintro e V2 ⟨rfl,hbN⟩
  have HSV2:=lH (HSV.out.trans (hbN.mono HSV.out.size))
  clear hbN
  clear HSV
  go_simp
  refine hK.out _ _ (HSV2.out) (fun hHeld=>?_)
  clear hK K
  try simp only [aP]
  refine wpAnyH_ready (rs:=[6,7,8]) (by kernel_rfl) (by simp) ?_
  refine AllReadyH.cons (o:=⟨some 64,.call ⟨ .value (.func 56),#[.tmp 62,.tmp 63],#[67,67]⟩,67,_,_,none⟩) rfl (fun K hK=>?_) ?_
  go_simp
  refine (mulE V2 (HM4.out.under HSV2.out) j.x bh Hx.out Hbh.out (by rw [←Evv.out];exact Hvv.out)).mono ?_
  rintro e V26 ⟨rfl,hbN⟩
  have HSV26:=lH (HSV2.out.trans (hbN.mono HSV2.out.size))
  clear hbN
  clear HSV2
  go_simp
  refine hK.out _ _ (HSV26.out) (fun hHeld=>?_)
  clear hK K
  try simp only [aP]
  refine wpAnyH_ready (rs:=[7,8]) (by kernel_rfl) (by simp) ?_
  refine AllReadyH.cons (o:=⟨some 9,.alloc 67,0,_,_,none⟩) rfl (fun K hK=>?_) ?_
  obtain ⟨V267,hN⟩:∃ W,W=V26.alloc (.cells #[.int .u64 0,.int .u64 0,.int .u64 0,.int .u64 0] 67):=⟨_,rfl⟩
  go_simp
  rw [←hN]
  obtain ⟨g9,hg⟩:∃ g,g=V26.heap.size:=⟨_,rfl⟩
  rw [←hg]
  have A9V267:Hid (NumOr V267 g9 none):=lH (by rw [hN,hg];exact NumOr.fresh _)
  have HSV267:=lH (by rw [hN];exact HSV26.out.alloc HSV26.out.size _:Below u4.heap.size u4 V267)
  have HG9:Hid (u4.heap.size≤g9):=lH (by rw [hg];exact HSV26.out.size)
  clear hN hg
  clear HSV26
  refine hK.out _ _ (HSV267.out) (fun hHeld=>?_)
  clear hK K
  try simp only [aP]
  refine rdy 8 ⟨some 10,.alloc 67,0,_,_,none⟩ rfl (fun K hK=>?_)
  obtain ⟨V2678,hN⟩:∃ W,W=V267.alloc (.cells #[.int .u64 0,.int .u64 0,.int .u64 0,.int .u64 0] 67):=⟨_,rfl⟩
  go_simp
  rw [←hN]
  obtain ⟨g10,hg⟩:∃ g,g=V267.heap.size:=⟨_,rfl⟩
  rw [←hg]
  have A10V2678:Hid (NumOr V2678 g10 none):=lH (by rw [hN,hg];exact NumOr.fresh _)
  have HSV2678:=lH (by rw [hN];exact HSV267.out.alloc HSV267.out.size _:Below u4.heap.size u4 V2678)
  have HG10:Hid (u4.heap.size≤g10):=lH (by rw [hg];exact HSV267.out.size)
  have HNE910:Hid (g9≠g10):=lH (by rw [hg];exact Nat.ne_of_lt A9V267.out.lt)
  have A9V2678:Hid (NumOr V2678 g9 none):=lH (by rw [hN];exact NumOr.alloc A9V267.out _)
  clear hN hg
  have HU0:=lH (show w.heap.size+1+1<g9 from (by have h1:=Holds.lt RB4.out;have h2:=HG9.out;omega))
  have HU1:=lH (show w.heap.size+1+1<g10 from (by have h1:=Holds.lt RB4.out;have h2:=HG10.out;omega))
  clear HSV267 A9V267
  refine hK.out _ _ (HSV2678.out) (fun hHeld=>?_)
  clear hK K
  try simp only [aP]
  refine rdy 9 ⟨none,.store 67 (.tmp 9) (.tmp 60),0,_,_,none⟩ rfl (fun K hK=>?_)
  obtain ⟨zv0,zv1,zv2,zv3,⟨z0,o0⟩,⟨z1,o1⟩,⟨z2,o2⟩,⟨z3,o3⟩⟩:=NumOr.facts A9V2678.out
  obtain ⟨V26789,hN⟩:∃ W,W=((((V2678.setCell ⟨g9,0,none⟩ (.int .u64 (ch0:Int))).setCell ⟨g9,1,none⟩ (.int .u64 (ch1:Int))).setCell ⟨g9,2,none⟩ (.int .u64 (ch2:Int))).setCell ⟨g9,3,none⟩ (.int .u64 (ch3:Int))):=⟨_,rfl⟩
  go_simp
  rw [←hN]
  have A9V26789:Hid (NumOr V26789 g9 (some (en ch))):=lH (by rw [hN];exact NumOr.set A9V2678.out Hch.out)
  have HSV26789:=lH (by rw [hN];exact below4 HSV2678.out HG9.out _ _ _ _:Below u4.heap.size u4 V26789)
  have A10V26789:Hid (NumOr V26789 g10 none):=lH (by rw [hN];exact NumOr.aside4 A10V2678.out HNE910.out.symm _ _ _ _)
  clear hN z0 o0 z1 o1 z2 o2 z3 o3 zv0 zv1 zv2 zv3
  clear HSV2678 A9V2678 A10V2678
  refine hK.out _ _ (HSV26789.out) (fun hHeld=>?_)
  clear hK K
  try simp only [aP]
  refine rdy 10 ⟨none,.store 67 (.tmp 10) (.tmp 64),0,_,_,none⟩ rfl (fun K hK=>?_)
  obtain ⟨zv0,zv1,zv2,zv3,⟨z0,o0⟩,⟨z1,o1⟩,⟨z2,o2⟩,⟨z3,o3⟩⟩:=NumOr.facts A10V26789.out
  obtain ⟨V26789a,hN⟩:∃ W,W=((((V26789.setCell ⟨g10,0,none⟩ (.int .u64 (vv0:Int))).setCell ⟨g10,1,none⟩ (.int .u64 (vv1:Int))).setCell ⟨g10,2,none⟩ (.int .u64 (vv2:Int))).setCell ⟨g10,3,none⟩ (.int .u64 (vv3:Int))):=⟨_,rfl⟩
  go_simp
  rw [←hN]
  have A10V26789a:Hid (NumOr V26789a g10 (some (en vv))):=lH (by rw [hN];exact NumOr.set A10V26789.out Hvv.out)
  have HSV26789a:=lH (by rw [hN];exact below4 HSV26789.out HG10.out _ _ _ _:Below u4.heap.size u4 V26789a)
  have A9V26789a:Hid (NumOr V26789a g9 (some (en ch))):=lH (by rw [hN];exact NumOr.aside4 A9V26789.out HNE910.out _ _ _ _)
  clear hN z0 o0 z1 o1 z2 o2 z3 o3 zv0 zv1 zv2 zv3
  clear HSV26789 A9V26789 A10V26789
  refine hK.out _ _ (HSV26789a.out) (fun hHeld=>?_)
  clear hK K
  try simp only [aP]
  refine wpAnyH_done (by kernel_rfl) ?_ _
  refine NoPanic.normal ?_
  rw [HQ13.out]
  exact ⟨rfl,g9,g10,rfl,rfl,HF.out _ HSV26789a.out,A9V26789a.out,A10V26789a.out,HU0.out,HU1.out⟩
  refine AllReadyH.cons (o:=⟨some 10,.alloc 67,0,_,_,none⟩) rfl (fun K hK=>?_) AllReadyH.nil
  obtain ⟨V268,hN⟩:∃ W,W=V26.alloc (.cells #[.int .u64 0,.int .u64 0,.int .u64 0,.int .u64 0] 67):=⟨_,rfl⟩
  go_simp
  rw [←hN]
  obtain ⟨g10,hg⟩:∃ g,g=V26.heap.size:=⟨_,rfl⟩
  rw [←hg]
  have A10V268:Hid (NumOr V268 g10 none):=lH (by rw [hN,hg];exact NumOr.fresh _)
  have HSV268:=lH (by rw [hN];exact HSV26.out.alloc HSV26.out.size _:Below u4.heap.size u4 V268)
  have HG10:Hid (u4.heap.size≤g10):=lH (by rw [hg];exact HSV26.out.size)
  clear hN hg
  clear HSV26
  refine hK.out _ _ (HSV268.out) (fun hHeld=>?_)
  clear hK K
  try simp only [aP]
  refine rdy 7 ⟨some 9,.alloc 67,0,_,_,none⟩ rfl (fun K hK=>?_)
  obtain ⟨V2687,hN⟩:∃ W,W=V268.alloc (.cells #[.int .u64 0,.int .u64 0,.int .u64 0,.int .u64 0] 67):=⟨_,rfl⟩
  go_simp
  rw [←hN]
  obtain ⟨g9,hg⟩:∃ g,g=V268.heap.size:=⟨_,rfl⟩
  rw [←hg]
  have A9V2687:Hid (NumOr V2687 g9 none):=lH (by rw [hN,hg];exact NumOr.fresh _)
  have HSV2687:=lH (by rw [hN];exact HSV268.out.alloc HSV268.out.size _:Below u4.heap.size u4 V2687)
  have HG9:Hid (u4.heap.size≤g9):=lH (by rw [hg];exact HSV268.out.size)
  have HNE109:Hid (g10≠g9):=lH (by rw [hg];exact Nat.ne_of_lt A10V268.out.lt)
  have A10V2687:Hid (NumOr V2687 g10 none):=lH (by rw [hN];exact NumOr.alloc A10V268.out _)
  clear hN hg
  have HU0:=lH (show w.heap.size+1+1<g9 from (by have h1:=Holds.lt RB4.out;have h2:=HG9.out;omega))
  have HU1:=lH (show w.heap.size+1+1<g10 from (by have h1:=Holds.lt RB4.out;have h2:=HG10.out;omega))
  clear HSV268 A10V268
  refine hK.out _ _ (HSV2687.out) (fun hHeld=>?_)
  clear hK K
  try simp only [aP]
  refine rdy 9 ⟨none,.store 67 (.tmp 9) (.tmp 60),0,_,_,none⟩ rfl (fun K hK=>?_)
  obtain ⟨zv0,zv1,zv2,zv3,⟨z0,o0⟩,⟨z1,o1⟩,⟨z2,o2⟩,⟨z3,o3⟩⟩:=NumOr.facts A9V2687.out
  obtain ⟨V26879,hN⟩:∃ W,W=((((V2687.setCell ⟨g9,0,none⟩ (.int .u64 (ch0:Int))).setCell ⟨g9,1,none⟩ (.int .u64 (ch1:Int))).setCell ⟨g9,2,none⟩ (.int .u64 (ch2:Int))).setCell ⟨g9,3,none⟩ (.int .u64 (ch3:Int))):=⟨_,rfl⟩
  go_simp
  rw [←hN]
  have A9V26879:Hid (NumOr V26879 g9 (some (en ch))):=lH (by rw [hN];exact NumOr.set A9V2687.out Hch.out)
  have HSV26879:=lH (by rw [hN];exact below4 HSV2687.out HG9.out _ _ _ _:Below u4.heap.size u4 V26879)
  have A10V26879:Hid (NumOr V26879 g10 none):=lH (by rw [hN];exact NumOr.aside4 A10V2687.out HNE109.out _ _ _ _)
  clear hN z0 o0 z1 o1 z2 o2 z3 o3 zv0 zv1 zv2 zv3
  clear HSV2687 A10V2687 A9V2687
  refine hK.out _ _ (HSV26879.out) (fun hHeld=>?_)
  clear hK K
  try simp only [aP]
  refine rdy 10 ⟨none,.store 67 (.tmp 10) (.tmp 64),0,_,_,none⟩ rfl (fun K hK=>?_)
  obtain ⟨zv0,zv1,zv2,zv3,⟨z0,o0⟩,⟨z1,o1⟩,⟨z2,o2⟩,⟨z3,o3⟩⟩:=NumOr.facts A10V26879.out
  obtain ⟨V26879a,hN⟩:∃ W,W=((((V26879.setCell ⟨g10,0,none⟩ (.int .u64 (vv0:Int))).setCell ⟨g10,1,none⟩ (.int .u64 (vv1:Int))).setCell ⟨g10,2,none⟩ (.int .u64 (vv2:Int))).setCell ⟨g10,3,none⟩ (.int .u64 (vv3:Int))):=⟨_,rfl⟩
  go_simp
  rw [←hN]
  have A10V26879a:Hid (NumOr V26879a g10 (some (en vv))):=lH (by rw [hN];exact NumOr.set A10V26879.out Hvv.out)
  have HSV26879a:=lH (by rw [hN];exact below4 HSV26879.out HG10.out _ _ _ _:Below u4.heap.size u4 V26879a)
  have A9V26879a:Hid (NumOr V26879a g9 (some (en ch))):=lH (by rw [hN];exact NumOr.aside4 A9V26879.out HNE109.out.symm _ _ _ _)
  clear hN z0 o0 z1 o1 z2 o2 z3 o3 zv0 zv1 zv2 zv3
  clear HSV26879 A10V26879 A9V26879
  refine hK.out _ _ (HSV26879a.out) (fun hHeld=>?_)
  clear hK K
  try simp only [aP]
  refine wpAnyH_done (by kernel_rfl) ?_ _
  refine NoPanic.normal ?_
  rw [HQ13.out]
  exact ⟨rfl,g9,g10,rfl,rfl,HF.out _ HSV26879a.out,A9V26879a.out,A10V26879a.out,HU0.out,HU1.out⟩
  refine AllReadyH.cons (o:=⟨some 9,.alloc 67,0,_,_,none⟩) rfl (fun K hK=>?_) ?_
  obtain ⟨V27,hN⟩:∃ W,W=V2.alloc (.cells #[.int .u64 0,.int .u64 0,.int .u64 0,.int .u64 0] 67):=⟨_,rfl⟩
  go_simp
  rw [←hN]
  obtain ⟨g9,hg⟩:∃ g,g=V2.heap.size:=⟨_,rfl⟩
  rw [←hg]
  have A9V27:Hid (NumOr V27 g9 none):=lH (by rw [hN,hg];exact NumOr.fresh _)
  have HSV27:=lH (by rw [hN];exact HSV2.out.alloc HSV2.out.size _:Below u4.heap.size u4 V27)
  have HG9:Hid (u4.heap.size≤g9):=lH (by rw [hg];exact HSV2.out.size)
  clear hN hg
  clear HSV2
  refine hK.out _ _ (HSV27.out) (fun hHeld=>?_)
  clear hK K
  try simp only [aP]
  refine wpAnyH_ready (rs:=[6,8]) (by kernel_rfl) (by simp) ?_
  refine AllReadyH.cons (o:=⟨some 64,.call ⟨ .value (.func 56),#[.tmp 62,.tmp 63],#[67,67]⟩,67,_,_,none⟩) rfl (fun K hK=>?_) ?_
  go_simp
  refine (mulE V27 (HM4.out.under HSV27.out) j.x bh Hx.out Hbh.out (by rw [←Evv.out];exact Hvv.out)).mono ?_
  rintro e V276 ⟨rfl,hbN⟩
  have HSV276:=lH (HSV27.out.trans (hbN.mono HSV27.out.size))
  have A9V276:Hid (NumOr V276 g9 none):=lH (NumOr.under A9V27.out hbN)
  clear hbN
  clear HSV27 A9V27
  go_simp
  refine hK.out _ _ (HSV276.out) (fun hHeld=>?_)
  clear hK K
  try simp only [aP]
  refine rdy 8 ⟨some 10,.alloc 67,0,_,_,none⟩ rfl (fun K hK=>?_)
  obtain ⟨V2768,hN⟩:∃ W,W=V276.alloc (.cells #[.int .u64 0,.int .u64 0,.int .u64 0,.int .u64 0] 67):=⟨_,rfl⟩
  go_simp
  rw [←hN]
  obtain ⟨g10,hg⟩:∃ g,g=V276.heap.size:=⟨_,rfl⟩
  rw [←hg]
  have A10V2768:Hid (NumOr V2768 g10 none):=lH (by rw [hN,hg];exact NumOr.fresh _)
  have HSV2768:=lH (by rw [hN];exact HSV276.out.alloc HSV276.out.size _:Below u4.heap.size u4 V2768)
  have HG10:Hid (u4.heap.size≤g10):=lH (by rw [hg];exact HSV276.out.size)
  have HNE910:Hid (g9≠g10):=lH (by rw [hg];exact Nat.ne_of_lt A9V276.out.lt)
  have A9V2768:Hid (NumOr V2768 g9 none):=lH (by rw [hN];exact NumOr.alloc A9V276.out _)
  clear hN hg
  have HU0:=lH (show w.heap.size+1+1<g9 from (by have h1:=Holds.lt RB4.out;have h2:=HG9.out;omega))
  have HU1:=lH (show w.heap.size+1+1<g10 from (by have h1:=Holds.lt RB4.out;have h2:=HG10.out;omega))
  clear HSV276 A9V276
  refine hK.out _ _ (HSV2768.out) (fun hHeld=>?_)
  clear hK K
  try simp only [aP]
  refine rdy 9 ⟨none,.store 67 (.tmp 9) (.tmp 60),0,_,_,none⟩ rfl (fun K hK=>?_)
  obtain ⟨zv0,zv1,zv2,zv3,⟨z0,o0⟩,⟨z1,o1⟩,⟨z2,o2⟩,⟨z3,o3⟩⟩:=NumOr.facts A9V2768.out
  obtain ⟨V27689,hN⟩:∃ W,W=((((V2768.setCell ⟨g9,0,none⟩ (.int .u64 (ch0:Int))).setCell ⟨g9,1,none⟩ (.int .u64 (ch1:Int))).setCell ⟨g9,2,none⟩ (.int .u64 (ch2:Int))).setCell ⟨g9,3,none⟩ (.int .u64 (ch3:Int))):=⟨_,rfl⟩
  go_simp
  rw [←hN]
  have A9V27689:Hid (NumOr V27689 g9 (some (en ch))):=lH (by rw [hN];exact NumOr.set A9V2768.out Hch.out)
  have HSV27689:=lH (by rw [hN];exact below4 HSV2768.out HG9.out _ _ _ _:Below u4.heap.size u4 V27689)
  have A10V27689:Hid (NumOr V27689 g10 none):=lH (by rw [hN];exact NumOr.aside4 A10V2768.out HNE910.out.symm _ _ _ _)
  clear hN z0 o0 z1 o1 z2 o2 z3 o3 zv0 zv1 zv2 zv3
  clear HSV2768 A9V2768 A10V2768
  refine hK.out _ _ (HSV27689.out) (fun hHeld=>?_)
  clear hK K
  try simp only [aP]
  refine rdy 10 ⟨none,.store 67 (.tmp 10) (.tmp 64),0,_,_,none⟩ rfl (fun K hK=>?_)
  obtain ⟨zv0,zv1,zv2,zv3,⟨z0,o0⟩,⟨z1,o1⟩,⟨z2,o2⟩,⟨z3,o3⟩⟩:=NumOr.facts A10V27689.out
  obtain ⟨V27689a,hN⟩:∃ W,W=((((V27689.setCell ⟨g10,0,none⟩ (.int .u64 (vv0:Int))).setCell ⟨g10,1,none⟩ (.int .u64 (vv1:Int))).setCell ⟨g10,2,none⟩ (.int .u64 (vv2:Int))).setCell ⟨g10,3,none⟩ (.int .u64 (vv3:Int))):=⟨_,rfl⟩
  go_simp
  rw [←hN]
  have A10V27689a:Hid (NumOr V27689a g10 (some (en vv))):=lH (by rw [hN];exact NumOr.set A10V27689.out Hvv.out)
  have HSV27689a:=lH (by rw [hN];exact below4 HSV27689.out HG10.out _ _ _ _:Below u4.heap.size u4 V27689a)
  have A9V27689a:Hid (NumOr V27689a g9 (some (en ch))):=lH (by rw [hN];exact NumOr.aside4 A9V27689.out HNE910.out _ _ _ _)
  clear hN z0 o0 z1 o1 z2 o2 z3 o3 zv0 zv1 zv2 zv3
  clear HSV27689 A9V27689 A10V27689
  refine hK.out _ _ (HSV27689a.out) (fun hHeld=>?_)
  clear hK K
  try simp only [aP]
  refine wpAnyH_done (by kernel_rfl) ?_ _
  refine NoPanic.normal ?_
  rw [HQ13.out]
  exact ⟨rfl,g9,g10,rfl,rfl,HF.out _ HSV27689a.out,A9V27689a.out,A10V27689a.out,HU0.out,HU1.out⟩
  refine AllReadyH.cons (o:=⟨some 10,.alloc 67,0,_,_,none⟩) rfl (fun K hK=>?_) AllReadyH.nil
  obtain ⟨V278,hN⟩:∃ W,W=V27.alloc (.cells #[.int .u64 0,.int .u64 0,.int .u64 0,.int .u64 0] 67):=⟨_,rfl⟩
  go_simp
  rw [←hN]
  obtain ⟨g10,hg⟩:∃ g,g=V27.heap.size:=⟨_,rfl⟩
  rw [←hg]
  have A10V278:Hid (NumOr V278 g10 none):=lH (by rw [hN,hg];exact NumOr.fresh _)
  have HSV278:=lH (by rw [hN];exact HSV27.out.alloc HSV27.out.size _:Below u4.heap.size u4 V278)
  have HG10:Hid (u4.heap.size≤g10):=lH (by rw [hg];exact HSV27.out.size)
  have HNE910:Hid (g9≠g10):=lH (by rw [hg];exact Nat.ne_of_lt A9V27.out.lt)
  have A9V278:Hid (NumOr V278 g9 none):=lH (by rw [hN];exact NumOr.alloc A9V27.out _)
  clear hN hg
  have HU0:=lH (show w.heap.size+1+1<g9 from (by have h1:=Holds.lt RB4.out;have h2:=HG9.out;omega))
  have HU1:=lH (show w.heap.size+1+1<g10 from (by have h1:=Holds.lt RB4.out;have h2:=HG10.out;omega))
  clear HSV27 A9V27
  refine hK.out _ _ (HSV278.out) (fun hHeld=>?_)
  clear hK K
  try simp only [aP]
  refine rdy 6 ⟨some 64,.call ⟨ .value (.func 56),#[.tmp 62,.tmp 63],#[67,67]⟩,67,_,_,none⟩ rfl (fun K hK=>?_)
  go_simp
  refine (mulE V278 (HM4.out.under HSV278.out) j.x bh Hx.out Hbh.out (by rw [←Evv.out];exact Hvv.out)).mono ?_
  rintro e V2786 ⟨rfl,hbN⟩
  have HSV2786:=lH (HSV278.out.trans (hbN.mono HSV278.out.size))
  have A9V2786:Hid (NumOr V2786 g9 none):=lH (NumOr.under A9V278.out hbN)
  have A10V2786:Hid (NumOr V2786 g10 none):=lH (NumOr.under A10V278.out hbN)
  clear hbN
  clear HSV278 A9V278 A10V278
  go_simp
  refine hK.out _ _ (HSV2786.out) (fun hHeld=>?_)
  clear hK K
  try simp only [aP]
  refine rdy 9 ⟨none,.store 67 (.tmp 9) (.tmp 60),0,_,_,none⟩ rfl (fun K hK=>?_)
  obtain ⟨zv0,zv1,zv2,zv3,⟨z0,o0⟩,⟨z1,o1⟩,⟨z2,o2⟩,⟨z3,o3⟩⟩:=NumOr.facts A9V2786.out
  obtain ⟨V27869,hN⟩:∃ W,W=((((V2786.setCell ⟨g9,0,none⟩ (.int .u64 (ch0:Int))).setCell ⟨g9,1,none⟩ (.int .u64 (ch1:Int))).setCell ⟨g9,2,none⟩ (.int .u64 (ch2:Int))).setCell ⟨g9,3,none⟩ (.int .u64 (ch3:Int))):=⟨_,rfl⟩
  go_simp
  rw [←hN]
  have A9V27869:Hid (NumOr V27869 g9 (some (en ch))):=lH (by rw [hN];exact NumOr.set A9V2786.out Hch.out)
  have HSV27869:=lH (by rw [hN];exact below4 HSV2786.out HG9.out _ _ _ _:Below u4.heap.size u4 V27869)
  have A10V27869:Hid (NumOr V27869 g10 none):=lH (by rw [hN];exact NumOr.aside4 A10V2786.out HNE910.out.symm _ _ _ _)
  clear hN z0 o0 z1 o1 z2 o2 z3 o3 zv0 zv1 zv2 zv3
  clear HSV2786 A9V2786 A10V2786
  refine hK.out _ _ (HSV27869.out) (fun hHeld=>?_)
  clear hK K
  try simp only [aP]
  refine rdy 10 ⟨none,.store 67 (.tmp 10) (.tmp 64),0,_,_,none⟩ rfl (fun K hK=>?_)
  obtain ⟨zv0,zv1,zv2,zv3,⟨z0,o0⟩,⟨z1,o1⟩,⟨z2,o2⟩,⟨z3,o3⟩⟩:=NumOr.facts A10V27869.out
  obtain ⟨V27869a,hN⟩:∃ W,W=((((V27869.setCell ⟨g10,0,none⟩ (.int .u64 (vv0:Int))).setCell ⟨g10,1,none⟩ (.int .u64 (vv1:Int))).setCell ⟨g10,2,none⟩ (.int .u64 (vv2:Int))).setCell ⟨g10,3,none⟩ (.int .u64 (vv3:Int))):=⟨_,rfl⟩
  go_simp
  rw [←hN]
  have A10V27869a:Hid (NumOr V27869a g10 (some (en vv))):=lH (by rw [hN];exact NumOr.set A10V27869.out Hvv.out)
  have HSV27869a:=lH (by rw [hN];exact below4 HSV27869.out HG10.out _ _ _ _:Below u4.heap.size u4 V27869a)
  have A9V27869a:Hid (NumOr V27869a g9 (some (en ch))):=lH (by rw [hN];exact NumOr.aside4 A9V27869.out HNE910.out _ _ _ _)
  clear hN z0 o0 z1 o1 z2 o2 z3 o3 zv0 zv1 zv2 zv3
  clear HSV27869 A9V27869 A10V27869
  refine hK.out _ _ (HSV27869a.out) (fun hHeld=>?_)
  clear hK K
  try simp only [aP]
  refine wpAnyH_done (by kernel_rfl) ?_ _
  refine NoPanic.normal ?_
  rw [HQ13.out]
  exact ⟨rfl,g9,g10,rfl,rfl,HF.out _ HSV27869a.out,A9V27869a.out,A10V27869a.out,HU0.out,HU1.out⟩
  refine AllReadyH.cons (o:=⟨some 10,.alloc 67,0,_,_,none⟩) rfl (fun K hK=>?_) AllReadyH.nil
  obtain ⟨V28,hN⟩:∃ W,W=V2.alloc (.cells #[.int .u64 0,.int .u64 0,.int .u64 0,.int .u64 0] 67):=⟨_,rfl⟩
  go_simp
  rw [←hN]
  obtain ⟨g10,hg⟩:∃ g,g=V2.heap.size:=⟨_,rfl⟩
  rw [←hg]
  have A10V28:Hid (NumOr V28 g10 none):=lH (by rw [hN,hg];exact NumOr.fresh _)
  have HSV28:=lH (by rw [hN];exact HSV2.out.alloc HSV2.out.size _:Below u4.heap.size u4 V28)
  have HG10:Hid (u4.heap.size≤g10):=lH (by rw [hg];exact HSV2.out.size)
  clear hN hg
  clear HSV2
  refine hK.out _ _ (HSV28.out) (fun hHeld=>?_)
  clear hK K
  try simp only [aP]
  refine wpAnyH_ready (rs:=[6,7]) (by kernel_rfl) (by simp) ?_
  refine AllReadyH.cons (o:=⟨some 64,.call ⟨ .value (.func 56),#[.tmp 62,.tmp 63],#[67,67]⟩,67,_,_,none⟩) rfl (fun K hK=>?_) ?_
  go_simp
  refine (mulE V28 (HM4.out.under HSV28.out) j.x bh Hx.out Hbh.out (by rw [←Evv.out];exact Hvv.out)).mono ?_
  rintro e V286 ⟨rfl,hbN⟩
  have HSV286:=lH (HSV28.out.trans (hbN.mono HSV28.out.size))
  have A10V286:Hid (NumOr V286 g10 none):=lH (NumOr.under A10V28.out hbN)
  clear hbN
  clear HSV28 A10V28
  go_simp
  refine hK.out _ _ (HSV286.out) (fun hHeld=>?_)
  clear hK K
  try simp only [aP]
  refine rdy 7 ⟨some 9,.alloc 67,0,_,_,none⟩ rfl (fun K hK=>?_)
  obtain ⟨V2867,hN⟩:∃ W,W=V286.alloc (.cells #[.int .u64 0,.int .u64 0,.int .u64 0,.int .u64 0] 67):=⟨_,rfl⟩
  go_simp
  rw [←hN]
  obtain ⟨g9,hg⟩:∃ g,g=V286.heap.size:=⟨_,rfl⟩
  rw [←hg]
  have A9V2867:Hid (NumOr V2867 g9 none):=lH (by rw [hN,hg];exact NumOr.fresh _)
  have HSV2867:=lH (by rw [hN];exact HSV286.out.alloc HSV286.out.size _:Below u4.heap.size u4 V2867)
  have HG9:Hid (u4.heap.size≤g9):=lH (by rw [hg];exact HSV286.out.size)
  have HNE109:Hid (g10≠g9):=lH (by rw [hg];exact Nat.ne_of_lt A10V286.out.lt)
  have A10V2867:Hid (NumOr V2867 g10 none):=lH (by rw [hN];exact NumOr.alloc A10V286.out _)
  clear hN hg
  have HU0:=lH (show w.heap.size+1+1<g9 from (by have h1:=Holds.lt RB4.out;have h2:=HG9.out;omega))
  have HU1:=lH (show w.heap.size+1+1<g10 from (by have h1:=Holds.lt RB4.out;have h2:=HG10.out;omega))
  clear HSV286 A10V286
  refine hK.out _ _ (HSV2867.out) (fun hHeld=>?_)
  clear hK K
  try simp only [aP]
  refine rdy 9 ⟨none,.store 67 (.tmp 9) (.tmp 60),0,_,_,none⟩ rfl (fun K hK=>?_)
  obtain ⟨zv0,zv1,zv2,zv3,⟨z0,o0⟩,⟨z1,o1⟩,⟨z2,o2⟩,⟨z3,o3⟩⟩:=NumOr.facts A9V2867.out
  obtain ⟨V28679,hN⟩:∃ W,W=((((V2867.setCell ⟨g9,0,none⟩ (.int .u64 (ch0:Int))).setCell ⟨g9,1,none⟩ (.int .u64 (ch1:Int))).setCell ⟨g9,2,none⟩ (.int .u64 (ch2:Int))).setCell ⟨g9,3,none⟩ (.int .u64 (ch3:Int))):=⟨_,rfl⟩
  go_simp
  rw [←hN]
  have A9V28679:Hid (NumOr V28679 g9 (some (en ch))):=lH (by rw [hN];exact NumOr.set A9V2867.out Hch.out)
  have HSV28679:=lH (by rw [hN];exact below4 HSV2867.out HG9.out _ _ _ _:Below u4.heap.size u4 V28679)
  have A10V28679:Hid (NumOr V28679 g10 none):=lH (by rw [hN];exact NumOr.aside4 A10V2867.out HNE109.out _ _ _ _)
  clear hN z0 o0 z1 o1 z2 o2 z3 o3 zv0 zv1 zv2 zv3
  clear HSV2867 A10V2867 A9V2867
  refine hK.out _ _ (HSV28679.out) (fun hHeld=>?_)
  clear hK K
  try simp only [aP]
  refine rdy 10 ⟨none,.store 67 (.tmp 10) (.tmp 64),0,_,_,none⟩ rfl (fun K hK=>?_)
  obtain ⟨zv0,zv1,zv2,zv3,⟨z0,o0⟩,⟨z1,o1⟩,⟨z2,o2⟩,⟨z3,o3⟩⟩:=NumOr.facts A10V28679.out
  obtain ⟨V28679a,hN⟩:∃ W,W=((((V28679.setCell ⟨g10,0,none⟩ (.int .u64 (vv0:Int))).setCell ⟨g10,1,none⟩ (.int .u64 (vv1:Int))).setCell ⟨g10,2,none⟩ (.int .u64 (vv2:Int))).setCell ⟨g10,3,none⟩ (.int .u64 (vv3:Int))):=⟨_,rfl⟩
  go_simp
  rw [←hN]
  have A10V28679a:Hid (NumOr V28679a g10 (some (en vv))):=lH (by rw [hN];exact NumOr.set A10V28679.out Hvv.out)
  have HSV28679a:=lH (by rw [hN];exact below4 HSV28679.out HG10.out _ _ _ _:Below u4.heap.size u4 V28679a)
  have A9V28679a:Hid (NumOr V28679a g9 (some (en ch))):=lH (by rw [hN];exact NumOr.aside4 A9V28679.out HNE109.out.symm _ _ _ _)
  clear hN z0 o0 z1 o1 z2 o2 z3 o3 zv0 zv1 zv2 zv3
  clear HSV28679 A10V28679 A9V28679
  refine hK.out _ _ (HSV28679a.out) (fun hHeld=>?_)
  clear hK K
  try simp only [aP]
  refine wpAnyH_done (by kernel_rfl) ?_ _
  refine NoPanic.normal ?_
  rw [HQ13.out]
  exact ⟨rfl,g9,g10,rfl,rfl,HF.out _ HSV28679a.out,A9V28679a.out,A10V28679a.out,HU0.out,HU1.out⟩
  refine AllReadyH.cons (o:=⟨some 9,.alloc 67,0,_,_,none⟩) rfl (fun K hK=>?_) AllReadyH.nil
  obtain ⟨V287,hN⟩:∃ W,W=V28.alloc (.cells #[.int .u64 0,.int .u64 0,.int .u64 0,.int .u64 0] 67):=⟨_,rfl⟩
  go_simp
  rw [←hN]
  obtain ⟨g9,hg⟩:∃ g,g=V28.heap.size:=⟨_,rfl⟩
  rw [←hg]
  have A9V287:Hid (NumOr V287 g9 none):=lH (by rw [hN,hg];exact NumOr.fresh _)
  have HSV287:=lH (by rw [hN];exact HSV28.out.alloc HSV28.out.size _:Below u4.heap.size u4 V287)
  have HG9:Hid (u4.heap.size≤g9):=lH (by rw [hg];exact HSV28.out.size)
  have HNE109:Hid (g10≠g9):=lH (by rw [hg];exact Nat.ne_of_lt A10V28.out.lt)
  have A10V287:Hid (NumOr V287 g10 none):=lH (by rw [hN];exact NumOr.alloc A10V28.out _)
  clear hN hg
  have HU0:=lH (show w.heap.size+1+1<g9 from (by have h1:=Holds.lt RB4.out;have h2:=HG9.out;omega))
  have HU1:=lH (show w.heap.size+1+1<g10 from (by have h1:=Holds.lt RB4.out;have h2:=HG10.out;omega))
  clear HSV28 A10V28
  refine hK.out _ _ (HSV287.out) (fun hHeld=>?_)
  clear hK K
  try simp only [aP]
  refine rdy 6 ⟨some 64,.call ⟨ .value (.func 56),#[.tmp 62,.tmp 63],#[67,67]⟩,67,_,_,none⟩ rfl (fun K hK=>?_)
  go_simp
  refine (mulE V287 (HM4.out.under HSV287.out) j.x bh Hx.out Hbh.out (by rw [←Evv.out];exact Hvv.out)).mono ?_
  rintro e V2876 ⟨rfl,hbN⟩
  have HSV2876:=lH (HSV287.out.trans (hbN.mono HSV287.out.size))
  have A10V2876:Hid (NumOr V2876 g10 none):=lH (NumOr.under A10V287.out hbN)
  have A9V2876:Hid (NumOr V2876 g9 none):=lH (NumOr.under A9V287.out hbN)
  clear hbN
  clear HSV287 A10V287 A9V287
  go_simp
  refine hK.out _ _ (HSV2876.out) (fun hHeld=>?_)
  clear hK K
  try simp only [aP]
  refine rdy 9 ⟨none,.store 67 (.tmp 9) (.tmp 60),0,_,_,none⟩ rfl (fun K hK=>?_)
  obtain ⟨zv0,zv1,zv2,zv3,⟨z0,o0⟩,⟨z1,o1⟩,⟨z2,o2⟩,⟨z3,o3⟩⟩:=NumOr.facts A9V2876.out
  obtain ⟨V28769,hN⟩:∃ W,W=((((V2876.setCell ⟨g9,0,none⟩ (.int .u64 (ch0:Int))).setCell ⟨g9,1,none⟩ (.int .u64 (ch1:Int))).setCell ⟨g9,2,none⟩ (.int .u64 (ch2:Int))).setCell ⟨g9,3,none⟩ (.int .u64 (ch3:Int))):=⟨_,rfl⟩
  go_simp
  rw [←hN]
  have A9V28769:Hid (NumOr V28769 g9 (some (en ch))):=lH (by rw [hN];exact NumOr.set A9V2876.out Hch.out)
  have HSV28769:=lH (by rw [hN];exact below4 HSV2876.out HG9.out _ _ _ _:Below u4.heap.size u4 V28769)
  have A10V28769:Hid (NumOr V28769 g10 none):=lH (by rw [hN];exact NumOr.aside4 A10V2876.out HNE109.out _ _ _ _)
  clear hN z0 o0 z1 o1 z2 o2 z3 o3 zv0 zv1 zv2 zv3
  clear HSV2876 A10V2876 A9V2876
  refine hK.out _ _ (HSV28769.out) (fun hHeld=>?_)
  clear hK K
  try simp only [aP]
  refine rdy 10 ⟨none,.store 67 (.tmp 10) (.tmp 64),0,_,_,none⟩ rfl (fun K hK=>?_)
  obtain ⟨zv0,zv1,zv2,zv3,⟨z0,o0⟩,⟨z1,o1⟩,⟨z2,o2⟩,⟨z3,o3⟩⟩:=NumOr.facts A10V28769.out
  obtain ⟨V28769a,hN⟩:∃ W,W=((((V28769.setCell ⟨g10,0,none⟩ (.int .u64 (vv0:Int))).setCell ⟨g10,1,none⟩ (.int .u64 (vv1:Int))).setCell ⟨g10,2,none⟩ (.int .u64 (vv2:Int))).setCell ⟨g10,3,none⟩ (.int .u64 (vv3:Int))):=⟨_,rfl⟩
  go_simp
  rw [←hN]
  have A10V28769a:Hid (NumOr V28769a g10 (some (en vv))):=lH (by rw [hN];exact NumOr.set A10V28769.out Hvv.out)
  have HSV28769a:=lH (by rw [hN];exact below4 HSV28769.out HG10.out _ _ _ _:Below u4.heap.size u4 V28769a)
  have A9V28769a:Hid (NumOr V28769a g9 (some (en ch))):=lH (by rw [hN];exact NumOr.aside4 A9V28769.out HNE109.out.symm _ _ _ _)
  clear hN z0 o0 z1 o1 z2 o2 z3 o3 zv0 zv1 zv2 zv3
  clear HSV28769 A10V28769 A9V28769
  refine hK.out _ _ (HSV28769a.out) (fun hHeld=>?_)
  clear hK K
  try simp only [aP]
  refine wpAnyH_done (by kernel_rfl) ?_ _
  refine NoPanic.normal ?_
  rw [HQ13.out]
  exact ⟨rfl,g9,g10,rfl,rfl,HF.out _ HSV28769a.out,A9V28769a.out,A10V28769a.out,HU0.out,HU1.out⟩
  refine AllReadyH.cons (o:=⟨some 9,.alloc 67,0,_,_,none⟩) rfl (fun K hK=>?_) ?_
  obtain ⟨V7,hN⟩:∃ W,W=V.alloc (.cells #[.int .u64 0,.int .u64 0,.int .u64 0,.int .u64 0] 67):=⟨_,rfl⟩
  go_simp
  rw [←hN]
  obtain ⟨g9,hg⟩:∃ g,g=V.heap.size:=⟨_,rfl⟩
  rw [←hg]
  have A9V7:Hid (NumOr V7 g9 none):=lH (by rw [hN,hg];exact NumOr.fresh _)
  have HSV7:=lH (by rw [hN];exact HSV.out.alloc HSV.out.size _:Below u4.heap.size u4 V7)
  have HG9:Hid (u4.heap.size≤g9):=lH (by rw [hg];exact HSV.out.size)
  clear hN hg
  clear HSV
  refine hK.out _ _ (HSV7.out) (fun hHeld=>?_)
  clear hK K
  try simp only [aP]
  refine wpAnyH_ready (rs:=[2,8]) (by kernel_rfl) (by simp) ?_
  refine AllReadyH.cons (o:=⟨some 60,.call ⟨ .value (.func 56),#[.tmp 58,.tmp 59],#[67,67]⟩,67,_,_,none⟩) rfl (fun K hK=>?_) ?_
  go_simp
  refine (mulE V7 (HM4.out.under HSV7.out) bh ah Hbh.out Hah.out (by rw [←Ech.out];exact Hch.out)).mono ?_
  rintro e V72 ⟨rfl,hbN⟩
  have HSV72:=lH (HSV7.out.trans (hbN.mono HSV7.out.size))
  have A9V72:Hid (NumOr V72 g9 none):=lH (NumOr.under A9V7.out hbN)
  clear hbN
  clear HSV7 A9V7
  go_simp
  refine hK.out _ _ (HSV72.out) (fun hHeld=>?_)
  clear hK K
  try simp only [aP]
  refine wpAnyH_ready (rs:=[6,8]) (by kernel_rfl) (by simp) ?_
  refine AllReadyH.cons (o:=⟨some 64,.call ⟨ .value (.func 56),#[.tmp 62,.tmp 63],#[67,67]⟩,67,_,_,none⟩) rfl (fun K hK=>?_) ?_
  go_simp
  refine (mulE V72 (HM4.out.under HSV72.out) j.x bh Hx.out Hbh.out (by rw [←Evv.out];exact Hvv.out)).mono ?_
  rintro e V726 ⟨rfl,hbN⟩
  have HSV726:=lH (HSV72.out.trans (hbN.mono HSV72.out.size))
  have A9V726:Hid (NumOr V726 g9 none):=lH (NumOr.under A9V72.out hbN)
  clear hbN
  clear HSV72 A9V72
  go_simp
  refine hK.out _ _ (HSV726.out) (fun hHeld=>?_)
  clear hK K
  try simp only [aP]
  refine rdy 8 ⟨some 10,.alloc 67,0,_,_,none⟩ rfl (fun K hK=>?_)
  obtain ⟨V7268,hN⟩:∃ W,W=V726.alloc (.cells #[.int .u64 0,.int .u64 0,.int .u64 0,.int .u64 0] 67):=⟨_,rfl⟩
  go_simp
  rw [←hN]
  obtain ⟨g10,hg⟩:∃ g,g=V726.heap.size:=⟨_,rfl⟩
  rw [←hg]
  have A10V7268:Hid (NumOr V7268 g10 none):=lH (by rw [hN,hg];exact NumOr.fresh _)
  have HSV7268:=lH (by rw [hN];exact HSV726.out.alloc HSV726.out.size _:Below u4.heap.size u4 V7268)
  have HG10:Hid (u4.heap.size≤g10):=lH (by rw [hg];exact HSV726.out.size)
  have HNE910:Hid (g9≠g10):=lH (by rw [hg];exact Nat.ne_of_lt A9V726.out.lt)
  have A9V7268:Hid (NumOr V7268 g9 none):=lH (by rw [hN];exact NumOr.alloc A9V726.out _)
  clear hN hg
  have HU0:=lH (show w.heap.size+1+1<g9 from (by have h1:=Holds.lt RB4.out;have h2:=HG9.out;omega))
  have HU1:=lH (show w.heap.size+1+1<g10 from (by have h1:=Holds.lt RB4.out;have h2:=HG10.out;omega))
  clear HSV726 A9V726
  refine hK.out _ _ (HSV7268.out) (fun hHeld=>?_)
  clear hK K
  try simp only [aP]
  refine rdy 9 ⟨none,.store 67 (.tmp 9) (.tmp 60),0,_,_,none⟩ rfl (fun K hK=>?_)
  obtain ⟨zv0,zv1,zv2,zv3,⟨z0,o0⟩,⟨z1,o1⟩,⟨z2,o2⟩,⟨z3,o3⟩⟩:=NumOr.facts A9V7268.out
  obtain ⟨V72689,hN⟩:∃ W,W=((((V7268.setCell ⟨g9,0,none⟩ (.int .u64 (ch0:Int))).setCell ⟨g9,1,none⟩ (.int .u64 (ch1:Int))).setCell ⟨g9,2,none⟩ (.int .u64 (ch2:Int))).setCell ⟨g9,3,none⟩ (.int .u64 (ch3:Int))):=⟨_,rfl⟩
  go_simp
  rw [←hN]
  have A9V72689:Hid (NumOr V72689 g9 (some (en ch))):=lH (by rw [hN];exact NumOr.set A9V7268.out Hch.out)
  have HSV72689:=lH (by rw [hN];exact below4 HSV7268.out HG9.out _ _ _ _:Below u4.heap.size u4 V72689)
  have A10V72689:Hid (NumOr V72689 g10 none):=lH (by rw [hN];exact NumOr.aside4 A10V7268.out HNE910.out.symm _ _ _ _)
  clear hN z0 o0 z1 o1 z2 o2 z3 o3 zv0 zv1 zv2 zv3
  clear HSV7268 A9V7268 A10V7268
  refine hK.out _ _ (HSV72689.out) (fun hHeld=>?_)
  clear hK K
  try simp only [aP]
  refine rdy 10 ⟨none,.store 67 (.tmp 10) (.tmp 64),0,_,_,none⟩ rfl (fun K hK=>?_)
  obtain ⟨zv0,zv1,zv2,zv3,⟨z0,o0⟩,⟨z1,o1⟩,⟨z2,o2⟩,⟨z3,o3⟩⟩:=NumOr.facts A10V72689.out
  obtain ⟨V72689a,hN⟩:∃ W,W=((((V72689.setCell ⟨g10,0,none⟩ (.int .u64 (vv0:Int))).setCell ⟨g10,1,none⟩ (.int .u64 (vv1:Int))).setCell ⟨g10,2,none⟩ (.int .u64 (vv2:Int))).setCell ⟨g10,3,none⟩ (.int .u64 (vv3:Int))):=⟨_,rfl⟩
  go_simp
  rw [←hN]
  have A10V72689a:Hid (NumOr V72689a g10 (some (en vv))):=lH (by rw [hN];exact NumOr.set A10V72689.out Hvv.out)
  have HSV72689a:=lH (by rw [hN];exact below4 HSV72689.out HG10.out _ _ _ _:Below u4.heap.size u4 V72689a)
  have A9V72689a:Hid (NumOr V72689a g9 (some (en ch))):=lH (by rw [hN];exact NumOr.aside4 A9V72689.out HNE910.out _ _ _ _)
  clear hN z0 o0 z1 o1 z2 o2 z3 o3 zv0 zv1 zv2 zv3
  clear HSV72689 A9V72689 A10V72689
  refine hK.out _ _ (HSV72689a.out) (fun hHeld=>?_)
  clear hK K
  try simp only [aP]
  refine wpAnyH_done (by kernel_rfl) ?_ _
  refine NoPanic.normal ?_
  rw [HQ13.out]
  exact ⟨rfl,g9,g10,rfl,rfl,HF.out _ HSV72689a.out,A9V72689a.out,A10V72689a.out,HU0.out,HU1.out⟩
  refine AllReadyH.cons (o:=⟨some 10,.alloc 67,0,_,_,none⟩) rfl (fun K hK=>?_) AllReadyH.nil
  obtain ⟨V728,hN⟩:∃ W,W=V72.alloc (.cells #[.int .u64 0,.int .u64 0,.int .u64 0,.int .u64 0] 67):=⟨_,rfl⟩
  go_simp
  rw [←hN]
  obtain ⟨g10,hg⟩:∃ g,g=V72.heap.size:=⟨_,rfl⟩
  rw [←hg]
  have A10V728:Hid (NumOr V728 g10 none):=lH (by rw [hN,hg];exact NumOr.fresh _)
  have HSV728:=lH (by rw [hN];exact HSV72.out.alloc HSV72.out.size _:Below u4.heap.size u4 V728)
  have HG10:Hid (u4.heap.size≤g10):=lH (by rw [hg];exact HSV72.out.size)
  have HNE910:Hid (g9≠g10):=lH (by rw [hg];exact Nat.ne_of_lt A9V72.out.lt)
  have A9V728:Hid (NumOr V728 g9 none):=lH (by rw [hN];exact NumOr.alloc A9V72.out _)
  clear hN hg
  have HU0:=lH (show w.heap.size+1+1<g9 from (by have h1:=Holds.lt RB4.out;have h2:=HG9.out;omega))
  have HU1:=lH (show w.heap.size+1+1<g10 from (by have h1:=Holds.lt RB4.out;have h2:=HG10.out;omega))
  clear HSV72 A9V72
  refine hK.out _ _ (HSV728.out) (fun hHeld=>?_)
  clear hK K
  try simp only [aP]
  refine rdy 6 ⟨some 64,.call ⟨ .value (.func 56),#[.tmp 62,.tmp 63],#[67,67]⟩,67,_,_,none⟩ rfl (fun K hK=>?_)
  go_simp
  refine (mulE V728 (HM4.out.under HSV728.out) j.x bh Hx.out Hbh.out (by rw [←Evv.out];exact Hvv.out)).mono ?_
  rintro e V7286 ⟨rfl,hbN⟩
  have HSV7286:=lH (HSV728.out.trans (hbN.mono HSV728.out.size))
  have A9V7286:Hid (NumOr V7286 g9 none):=lH (NumOr.under A9V728.out hbN)
  have A10V7286:Hid (NumOr V7286 g10 none):=lH (NumOr.under A10V728.out hbN)
  clear hbN
  clear HSV728 A9V728 A10V728
  go_simp
  refine hK.out _ _ (HSV7286.out) (fun hHeld=>?_)
  clear hK K
  try simp only [aP]
  refine rdy 9 ⟨none,.store 67 (.tmp 9) (.tmp 60),0,_,_,none⟩ rfl (fun K hK=>?_)
  obtain ⟨zv0,zv1,zv2,zv3,⟨z0,o0⟩,⟨z1,o1⟩,⟨z2,o2⟩,⟨z3,o3⟩⟩:=NumOr.facts A9V7286.out
  obtain ⟨V72869,hN⟩:∃ W,W=((((V7286.setCell ⟨g9,0,none⟩ (.int .u64 (ch0:Int))).setCell ⟨g9,1,none⟩ (.int .u64 (ch1:Int))).setCell ⟨g9,2,none⟩ (.int .u64 (ch2:Int))).setCell ⟨g9,3,none⟩ (.int .u64 (ch3:Int))):=⟨_,rfl⟩
  go_simp
  rw [←hN]
  have A9V72869:Hid (NumOr V72869 g9 (some (en ch))):=lH (by rw [hN];exact NumOr.set A9V7286.out Hch.out)
  have HSV72869:=lH (by rw [hN];exact below4 HSV7286.out HG9.out _ _ _ _:Below u4.heap.size u4 V72869)
  have A10V72869:Hid (NumOr V72869 g10 none):=lH (by rw [hN];exact NumOr.aside4 A10V7286.out HNE910.out.symm _ _ _ _)
  clear hN z0 o0 z1 o1 z2 o2 z3 o3 zv0 zv1 zv2 zv3
  clear HSV7286 A9V7286 A10V7286
  refine hK.out _ _ (HSV72869.out) (fun hHeld=>?_)
  clear hK K
  try simp only [aP]
  refine rdy 10 ⟨none,.store 67 (.tmp 10) (.tmp 64),0,_,_,none⟩ rfl (fun K hK=>?_)
  obtain ⟨zv0,zv1,zv2,zv3,⟨z0,o0⟩,⟨z1,o1⟩,⟨z2,o2⟩,⟨z3,o3⟩⟩:=NumOr.facts A10V72869.out
  obtain ⟨V72869a,hN⟩:∃ W,W=((((V72869.setCell ⟨g10,0,none⟩ (.int .u64 (vv0:Int))).setCell ⟨g10,1,none⟩ (.int .u64 (vv1:Int))).setCell ⟨g10,2,none⟩ (.int .u64 (vv2:Int))).setCell ⟨g10,3,none⟩ (.int .u64 (vv3:Int))):=⟨_,rfl⟩
  go_simp
  rw [←hN]
  have A10V72869a:Hid (NumOr V72869a g10 (some (en vv))):=lH (by rw [hN];exact NumOr.set A10V72869.out Hvv.out)
  have HSV72869a:=lH (by rw [hN];exact below4 HSV72869.out HG10.out _ _ _ _:Below u4.heap.size u4 V72869a)
  have A9V72869a:Hid (NumOr V72869a g9 (some (en ch))):=lH (by rw [hN];exact NumOr.aside4 A9V72869.out HNE910.out _ _ _ _)
  clear hN z0 o0 z1 o1 z2 o2 z3 o3 zv0 zv1 zv2 zv3
  clear HSV72869 A9V72869 A10V72869
  refine hK.out _ _ (HSV72869a.out) (fun hHeld=>?_)
  clear hK K
  try simp only [aP]
  refine wpAnyH_done (by kernel_rfl) ?_ _
  refine NoPanic.normal ?_
  rw [HQ13.out]
  exact ⟨rfl,g9,g10,rfl,rfl,HF.out _ HSV72869a.out,A9V72869a.out,A10V72869a.out,HU0.out,HU1.out⟩
  refine AllReadyH.cons (o:=⟨some 10,.alloc 67,0,_,_,none⟩) rfl (fun K hK=>?_) AllReadyH.nil
  obtain ⟨V78,hN⟩:∃ W,W=V7.alloc (.cells #[.int .u64 0,.int .u64 0,.int .u64 0,.int .u64 0] 67):=⟨_,rfl⟩
  go_simp
  rw [←hN]
  obtain ⟨g10,hg⟩:∃ g,g=V7.heap.size:=⟨_,rfl⟩
  rw [←hg]
  have A10V78:Hid (NumOr V78 g10 none):=lH (by rw [hN,hg];exact NumOr.fresh _)
  have HSV78:=lH (by rw [hN];exact HSV7.out.alloc HSV7.out.size _:Below u4.heap.size u4 V78)
  have HG10:Hid (u4.heap.size≤g10):=lH (by rw [hg];exact HSV7.out.size)
  have HNE910:Hid (g9≠g10):=lH (by rw [hg];exact Nat.ne_of_lt A9V7.out.lt)
  have A9V78:Hid (NumOr V78 g9 none):=lH (by rw [hN];exact NumOr.alloc A9V7.out _)
  clear hN hg
  have HU0:=lH (show w.heap.size+1+1<g9 from (by have h1:=Holds.lt RB4.out;have h2:=HG9.out;omega))
  have HU1:=lH (show w.heap.size+1+1<g10 from (by have h1:=Holds.lt RB4.out;have h2:=HG10.out;omega))
  clear HSV7 A9V7
  refine hK.out _ _ (HSV78.out) (fun hHeld=>?_)
  clear hK K
  try simp only [aP]
  refine rdy 2 ⟨some 60,.call ⟨ .value (.func 56),#[.tmp 58,.tmp 59],#[67,67]⟩,67,_,_,none⟩ rfl (fun K hK=>?_)
  go_simp
  refine (mulE V78 (HM4.out.under HSV78.out) bh ah Hbh.out Hah.out (by rw [←Ech.out];exact Hch.out)).mono ?_
  rintro e V782 ⟨rfl,hbN⟩
  have HSV782:=lH (HSV78.out.trans (hbN.mono HSV78.out.size))
  have A9V782:Hid (NumOr V782 g9 none):=lH (NumOr.under A9V78.out hbN)
  have A10V782:Hid (NumOr V782 g10 none):=lH (NumOr.under A10V78.out hbN)
  clear hbN
  clear HSV78 A9V78 A10V78
  go_simp
  refine hK.out _ _ (HSV782.out) (fun hHeld=>?_)
  clear hK K
  try simp only [aP]
  refine rdy 6 ⟨some 64,.call ⟨ .value (.func 56),#[.tmp 62,.tmp 63],#[67,67]⟩,67,_,_,none⟩ rfl (fun K hK=>?_)
  go_simp
  refine (mulE V782 (HM4.out.under HSV782.out) j.x bh Hx.out Hbh.out (by rw [←Evv.out];exact Hvv.out)).mono ?_
  rintro e V7826 ⟨rfl,hbN⟩
  have HSV7826:=lH (HSV782.out.trans (hbN.mono HSV782.out.size))
  have A9V7826:Hid (NumOr V7826 g9 none):=lH (NumOr.under A9V782.out hbN)
  have A10V7826:Hid (NumOr V7826 g10 none):=lH (NumOr.under A10V782.out hbN)
  clear hbN
  clear HSV782 A9V782 A10V782
  go_simp
  refine hK.out _ _ (HSV7826.out) (fun hHeld=>?_)
  clear hK K
  try simp only [aP]
  refine rdy 9 ⟨none,.store 67 (.tmp 9) (.tmp 60),0,_,_,none⟩ rfl (fun K hK=>?_)
  obtain ⟨zv0,zv1,zv2,zv3,⟨z0,o0⟩,⟨z1,o1⟩,⟨z2,o2⟩,⟨z3,o3⟩⟩:=NumOr.facts A9V7826.out
  obtain ⟨V78269,hN⟩:∃ W,W=((((V7826.setCell ⟨g9,0,none⟩ (.int .u64 (ch0:Int))).setCell ⟨g9,1,none⟩ (.int .u64 (ch1:Int))).setCell ⟨g9,2,none⟩ (.int .u64 (ch2:Int))).setCell ⟨g9,3,none⟩ (.int .u64 (ch3:Int))):=⟨_,rfl⟩
  go_simp
  rw [←hN]
  have A9V78269:Hid (NumOr V78269 g9 (some (en ch))):=lH (by rw [hN];exact NumOr.set A9V7826.out Hch.out)
  have HSV78269:=lH (by rw [hN];exact below4 HSV7826.out HG9.out _ _ _ _:Below u4.heap.size u4 V78269)
  have A10V78269:Hid (NumOr V78269 g10 none):=lH (by rw [hN];exact NumOr.aside4 A10V7826.out HNE910.out.symm _ _ _ _)
  clear hN z0 o0 z1 o1 z2 o2 z3 o3 zv0 zv1 zv2 zv3
  clear HSV7826 A9V7826 A10V7826
  refine hK.out _ _ (HSV78269.out) (fun hHeld=>?_)
  clear hK K
  try simp only [aP]
  refine rdy 10 ⟨none,.store 67 (.tmp 10) (.tmp 64),0,_,_,none⟩ rfl (fun K hK=>?_)
  obtain ⟨zv0,zv1,zv2,zv3,⟨z0,o0⟩,⟨z1,o1⟩,⟨z2,o2⟩,⟨z3,o3⟩⟩:=NumOr.facts A10V78269.out
  obtain ⟨V78269a,hN⟩:∃ W,W=((((V78269.setCell ⟨g10,0,none⟩ (.int .u64 (vv0:Int))).setCell ⟨g10,1,none⟩ (.int .u64 (vv1:Int))).setCell ⟨g10,2,none⟩ (.int .u64 (vv2:Int))).setCell ⟨g10,3,none⟩ (.int .u64 (vv3:Int))):=⟨_,rfl⟩
  go_simp
  rw [←hN]
  have A10V78269a:Hid (NumOr V78269a g10 (some (en vv))):=lH (by rw [hN];exact NumOr.set A10V78269.out Hvv.out)
  have HSV78269a:=lH (by rw [hN];exact below4 HSV78269.out HG10.out _ _ _ _:Below u4.heap.size u4 V78269a)
  have A9V78269a:Hid (NumOr V78269a g9 (some (en ch))):=lH (by rw [hN];exact NumOr.aside4 A9V78269.out HNE910.out _ _ _ _)
  clear hN z0 o0 z1 o1 z2 o2 z3 o3 zv0 zv1 zv2 zv3
  clear HSV78269 A9V78269 A10V78269
  refine hK.out _ _ (HSV78269a.out) (fun hHeld=>?_)
  clear hK K
  try simp only [aP]
  refine wpAnyH_done (by kernel_rfl) ?_ _
  refine NoPanic.normal ?_
  rw [HQ13.out]
  exact ⟨rfl,g9,g10,rfl,rfl,HF.out _ HSV78269a.out,A9V78269a.out,A10V78269a.out,HU0.out,HU1.out⟩
  refine AllReadyH.cons (o:=⟨some 10,.alloc 67,0,_,_,none⟩) rfl (fun K hK=>?_) AllReadyH.nil
  obtain ⟨V8,hN⟩:∃ W,W=V.alloc (.cells #[.int .u64 0,.int .u64 0,.int .u64 0,.int .u64 0] 67):=⟨_,rfl⟩
  go_simp
  rw [←hN]
  obtain ⟨g10,hg⟩:∃ g,g=V.heap.size:=⟨_,rfl⟩
  rw [←hg]
  have A10V8:Hid (NumOr V8 g10 none):=lH (by rw [hN,hg];exact NumOr.fresh _)
  have HSV8:=lH (by rw [hN];exact HSV.out.alloc HSV.out.size _:Below u4.heap.size u4 V8)
  have HG10:Hid (u4.heap.size≤g10):=lH (by rw [hg];exact HSV.out.size)
  clear hN hg
  clear HSV
  refine hK.out _ _ (HSV8.out) (fun hHeld=>?_)
  clear hK K
  try simp only [aP]
  refine wpAnyH_ready (rs:=[2,7]) (by kernel_rfl) (by simp) ?_
  refine AllReadyH.cons (o:=⟨some 60,.call ⟨ .value (.func 56),#[.tmp 58,.tmp 59],#[67,67]⟩,67,_,_,none⟩) rfl (fun K hK=>?_) ?_
  go_simp
  refine (mulE V8 (HM4.out.under HSV8.out) bh ah Hbh.out Hah.out (by rw [←Ech.out];exact Hch.out)).mono ?_
  rintro e V82 ⟨rfl,hbN⟩
  have HSV82:=lH (HSV8.out.trans (hbN.mono HSV8.out.size))
  have A10V82:Hid (NumOr V82 g10 none):=lH (NumOr.under A10V8.out hbN)
  clear hbN
  clear HSV8 A10V8
  go_simp
  refine hK.out _ _ (HSV82.out) (fun hHeld=>?_)
  clear hK K
  try simp only [aP]
  refine wpAnyH_ready (rs:=[6,7]) (by kernel_rfl) (by simp) ?_
  refine AllReadyH.cons (o:=⟨some 64,.call ⟨ .value (.func 56),#[.tmp 62,.tmp 63],#[67,67]⟩,67,_,_,none⟩) rfl (fun K hK=>?_) ?_
  go_simp
  refine (mulE V82 (HM4.out.under HSV82.out) j.x bh Hx.out Hbh.out (by rw [←Evv.out];exact Hvv.out)).mono ?_
  rintro e V826 ⟨rfl,hbN⟩
  have HSV826:=lH (HSV82.out.trans (hbN.mono HSV82.out.size))
  have A10V826:Hid (NumOr V826 g10 none):=lH (NumOr.under A10V82.out hbN)
  clear hbN
  clear HSV82 A10V82
  go_simp
  refine hK.out _ _ (HSV826.out) (fun hHeld=>?_)
  clear hK K
  try simp only [aP]
  refine rdy 7 ⟨some 9,.alloc 67,0,_,_,none⟩ rfl (fun K hK=>?_)
  obtain ⟨V8267,hN⟩:∃ W,W=V826.alloc (.cells #[.int .u64 0,.int .u64 0,.int .u64 0,.int .u64 0] 67):=⟨_,rfl⟩
  go_simp
  rw [←hN]
  obtain ⟨g9,hg⟩:∃ g,g=V826.heap.size:=⟨_,rfl⟩
  rw [←hg]
  have A9V8267:Hid (NumOr V8267 g9 none):=lH (by rw [hN,hg];exact NumOr.fresh _)
  have HSV8267:=lH (by rw [hN];exact HSV826.out.alloc HSV826.out.size _:Below u4.heap.size u4 V8267)
  have HG9:Hid (u4.heap.size≤g9):=lH (by rw [hg];exact HSV826.out.size)
  have HNE109:Hid (g10≠g9):=lH (by rw [hg];exact Nat.ne_of_lt A10V826.out.lt)
  have A10V8267:Hid (NumOr V8267 g10 none):=lH (by rw [hN];exact NumOr.alloc A10V826.out _)
  clear hN hg
  have HU0:=lH (show w.heap.size+1+1<g9 from (by have h1:=Holds.lt RB4.out;have h2:=HG9.out;omega))
  have HU1:=lH (show w.heap.size+1+1<g10 from (by have h1:=Holds.lt RB4.out;have h2:=HG10.out;omega))
  clear HSV826 A10V826
  refine hK.out _ _ (HSV8267.out) (fun hHeld=>?_)
  clear hK K
  try simp only [aP]
  refine rdy 9 ⟨none,.store 67 (.tmp 9) (.tmp 60),0,_,_,none⟩ rfl (fun K hK=>?_)
  obtain ⟨zv0,zv1,zv2,zv3,⟨z0,o0⟩,⟨z1,o1⟩,⟨z2,o2⟩,⟨z3,o3⟩⟩:=NumOr.facts A9V8267.out
  obtain ⟨V82679,hN⟩:∃ W,W=((((V8267.setCell ⟨g9,0,none⟩ (.int .u64 (ch0:Int))).setCell ⟨g9,1,none⟩ (.int .u64 (ch1:Int))).setCell ⟨g9,2,none⟩ (.int .u64 (ch2:Int))).setCell ⟨g9,3,none⟩ (.int .u64 (ch3:Int))):=⟨_,rfl⟩
  go_simp
  rw [←hN]
  have A9V82679:Hid (NumOr V82679 g9 (some (en ch))):=lH (by rw [hN];exact NumOr.set A9V8267.out Hch.out)
  have HSV82679:=lH (by rw [hN];exact below4 HSV8267.out HG9.out _ _ _ _:Below u4.heap.size u4 V82679)
  have A10V82679:Hid (NumOr V82679 g10 none):=lH (by rw [hN];exact NumOr.aside4 A10V8267.out HNE109.out _ _ _ _)
  clear hN z0 o0 z1 o1 z2 o2 z3 o3 zv0 zv1 zv2 zv3
  clear HSV8267 A10V8267 A9V8267
  refine hK.out _ _ (HSV82679.out) (fun hHeld=>?_)
  clear hK K
  try simp only [aP]
  refine rdy 10 ⟨none,.store 67 (.tmp 10) (.tmp 64),0,_,_,none⟩ rfl (fun K hK=>?_)
  obtain ⟨zv0,zv1,zv2,zv3,⟨z0,o0⟩,⟨z1,o1⟩,⟨z2,o2⟩,⟨z3,o3⟩⟩:=NumOr.facts A10V82679.out
  obtain ⟨V82679a,hN⟩:∃ W,W=((((V82679.setCell ⟨g10,0,none⟩ (.int .u64 (vv0:Int))).setCell ⟨g10,1,none⟩ (.int .u64 (vv1:Int))).setCell ⟨g10,2,none⟩ (.int .u64 (vv2:Int))).setCell ⟨g10,3,none⟩ (.int .u64 (vv3:Int))):=⟨_,rfl⟩
  go_simp
  rw [←hN]
  have A10V82679a:Hid (NumOr V82679a g10 (some (en vv))):=lH (by rw [hN];exact NumOr.set A10V82679.out Hvv.out)
  have HSV82679a:=lH (by rw [hN];exact below4 HSV82679.out HG10.out _ _ _ _:Below u4.heap.size u4 V82679a)
  have A9V82679a:Hid (NumOr V82679a g9 (some (en ch))):=lH (by rw [hN];exact NumOr.aside4 A9V82679.out HNE109.out.symm _ _ _ _)
  clear hN z0 o0 z1 o1 z2 o2 z3 o3 zv0 zv1 zv2 zv3
  clear HSV82679 A10V82679 A9V82679
  refine hK.out _ _ (HSV82679a.out) (fun hHeld=>?_)
  clear hK K
  try simp only [aP]
  refine wpAnyH_done (by kernel_rfl) ?_ _
  refine NoPanic.normal ?_
  rw [HQ13.out]
  exact ⟨rfl,g9,g10,rfl,rfl,HF.out _ HSV82679a.out,A9V82679a.out,A10V82679a.out,HU0.out,HU1.out⟩
  refine AllReadyH.cons (o:=⟨some 9,.alloc 67,0,_,_,none⟩) rfl (fun K hK=>?_) AllReadyH.nil
  obtain ⟨V827,hN⟩:∃ W,W=V82.alloc (.cells #[.int .u64 0,.int .u64 0,.int .u64 0,.int .u64 0] 67):=⟨_,rfl⟩
  go_simp
  rw [←hN]
  obtain ⟨g9,hg⟩:∃ g,g=V82.heap.size:=⟨_,rfl⟩
  rw [←hg]
  have A9V827:Hid (NumOr V827 g9 none):=lH (by rw [hN,hg];exact NumOr.fresh _)
  have HSV827:=lH (by rw [hN];exact HSV82.out.alloc HSV82.out.size _:Below u4.heap.size u4 V827)
  have HG9:Hid (u4.heap.size≤g9):=lH (by rw [hg];exact HSV82.out.size)
  have HNE109:Hid (g10≠g9):=lH (by rw [hg];exact Nat.ne_of_lt A10V82.out.lt)
  have A10V827:Hid (NumOr V827 g10 none):=lH (by rw [hN];exact NumOr.alloc A10V82.out _)
  clear hN hg
  have HU0:=lH (show w.heap.size+1+1<g9 from (by have h1:=Holds.lt RB4.out;have h2:=HG9.out;omega))
  have HU1:=lH (show w.heap.size+1+1<g10 from (by have h1:=Holds.lt RB4.out;have h2:=HG10.out;omega))
  clear HSV82 A10V82
  refine hK.out _ _ (HSV827.out) (fun hHeld=>?_)
  clear hK K
  try simp only [aP]
  refine rdy 6 ⟨some 64,.call ⟨ .value (.func 56),#[.tmp 62,.tmp 63],#[67,67]⟩,67,_,_,none⟩ rfl (fun K hK=>?_)
  go_simp
  refine (mulE V827 (HM4.out.under HSV827.out) j.x bh Hx.out Hbh.out (by rw [←Evv.out];exact Hvv.out)).mono ?_
  rintro e V8276 ⟨rfl,hbN⟩
  have HSV8276:=lH (HSV827.out.trans (hbN.mono HSV827.out.size))
  have A10V8276:Hid (NumOr V8276 g10 none):=lH (NumOr.under A10V827.out hbN)
  have A9V8276:Hid (NumOr V8276 g9 none):=lH (NumOr.under A9V827.out hbN)
  clear hbN
  clear HSV827 A10V827 A9V827
  go_simp
  refine hK.out _ _ (HSV8276.out) (fun hHeld=>?_)
  clear hK K
  try simp only [aP]
  refine rdy 9 ⟨none,.store 67 (.tmp 9) (.tmp 60),0,_,_,none⟩ rfl (fun K hK=>?_)
  obtain ⟨zv0,zv1,zv2,zv3,⟨z0,o0⟩,⟨z1,o1⟩,⟨z2,o2⟩,⟨z3,o3⟩⟩:=NumOr.facts A9V8276.out
  obtain ⟨V82769,hN⟩:∃ W,W=((((V8276.setCell ⟨g9,0,none⟩ (.int .u64 (ch0:Int))).setCell ⟨g9,1,none⟩ (.int .u64 (ch1:Int))).setCell ⟨g9,2,none⟩ (.int .u64 (ch2:Int))).setCell ⟨g9,3,none⟩ (.int .u64 (ch3:Int))):=⟨_,rfl⟩
  go_simp
  rw [←hN]
  have A9V82769:Hid (NumOr V82769 g9 (some (en ch))):=lH (by rw [hN];exact NumOr.set A9V8276.out Hch.out)
  have HSV82769:=lH (by rw [hN];exact below4 HSV8276.out HG9.out _ _ _ _:Below u4.heap.size u4 V82769)
  have A10V82769:Hid (NumOr V82769 g10 none):=lH (by rw [hN];exact NumOr.aside4 A10V8276.out HNE109.out _ _ _ _)
  clear hN z0 o0 z1 o1 z2 o2 z3 o3 zv0 zv1 zv2 zv3
  clear HSV8276 A10V8276 A9V8276
  refine hK.out _ _ (HSV82769.out) (fun hHeld=>?_)
  clear hK K
  try simp only [aP]
  refine rdy 10 ⟨none,.store 67 (.tmp 10) (.tmp 64),0,_,_,none⟩ rfl (fun K hK=>?_)
  obtain ⟨zv0,zv1,zv2,zv3,⟨z0,o0⟩,⟨z1,o1⟩,⟨z2,o2⟩,⟨z3,o3⟩⟩:=NumOr.facts A10V82769.out
  obtain ⟨V82769a,hN⟩:∃ W,W=((((V82769.setCell ⟨g10,0,none⟩ (.int .u64 (vv0:Int))).setCell ⟨g10,1,none⟩ (.int .u64 (vv1:Int))).setCell ⟨g10,2,none⟩ (.int .u64 (vv2:Int))).setCell ⟨g10,3,none⟩ (.int .u64 (vv3:Int))):=⟨_,rfl⟩
  go_simp
  rw [←hN]
  have A10V82769a:Hid (NumOr V82769a g10 (some (en vv))):=lH (by rw [hN];exact NumOr.set A10V82769.out Hvv.out)
  have HSV82769a:=lH (by rw [hN];exact below4 HSV82769.out HG10.out _ _ _ _:Below u4.heap.size u4 V82769a)
  have A9V82769a:Hid (NumOr V82769a g9 (some (en ch))):=lH (by rw [hN];exact NumOr.aside4 A9V82769.out HNE109.out.symm _ _ _ _)
  clear hN z0 o0 z1 o1 z2 o2 z3 o3 zv0 zv1 zv2 zv3
  clear HSV82769 A10V82769 A9V82769
  refine hK.out _ _ (HSV82769a.out) (fun hHeld=>?_)
  clear hK K
  try simp only [aP]
  refine wpAnyH_done (by kernel_rfl) ?_ _
  refine NoPanic.normal ?_
  rw [HQ13.out]
  exact ⟨rfl,g9,g10,rfl,rfl,HF.out _ HSV82769a.out,A9V82769a.out,A10V82769a.out,HU0.out,HU1.out⟩
  refine AllReadyH.cons (o:=⟨some 9,.alloc 67,0,_,_,none⟩) rfl (fun K hK=>?_) AllReadyH.nil
  obtain ⟨V87,hN⟩:∃ W,W=V8.alloc (.cells #[.int .u64 0,.int .u64 0,.int .u64 0,.int .u64 0] 67):=⟨_,rfl⟩
  go_simp
  rw [←hN]
  obtain ⟨g9,hg⟩:∃ g,g=V8.heap.size:=⟨_,rfl⟩
  rw [←hg]
  have A9V87:Hid (NumOr V87 g9 none):=lH (by rw [hN,hg];exact NumOr.fresh _)
  have HSV87:=lH (by rw [hN];exact HSV8.out.alloc HSV8.out.size _:Below u4.heap.size u4 V87)
  have HG9:Hid (u4.heap.size≤g9):=lH (by rw [hg];exact HSV8.out.size)
  have HNE109:Hid (g10≠g9):=lH (by rw [hg];exact Nat.ne_of_lt A10V8.out.lt)
  have A10V87:Hid (NumOr V87 g10 none):=lH (by rw [hN];exact NumOr.alloc A10V8.out _)
  clear hN hg
  have HU0:=lH (show w.heap.size+1+1<g9 from (by have h1:=Holds.lt RB4.out;have h2:=HG9.out;omega))
  have HU1:=lH (show w.heap.size+1+1<g10 from (by have h1:=Holds.lt RB4.out;have h2:=HG10.out;omega))
  clear HSV8 A10V8
  refine hK.out _ _ (HSV87.out) (fun hHeld=>?_)
  clear hK K
  try simp only [aP]
  refine rdy 2 ⟨some 60,.call ⟨ .value (.func 56),#[.tmp 58,.tmp 59],#[67,67]⟩,67,_,_,none⟩ rfl (fun K hK=>?_)
  go_simp
  refine (mulE V87 (HM4.out.under HSV87.out) bh ah Hbh.out Hah.out (by rw [←Ech.out];exact Hch.out)).mono ?_
  rintro e V872 ⟨rfl,hbN⟩
  have HSV872:=lH (HSV87.out.trans (hbN.mono HSV87.out.size))
  have A10V872:Hid (NumOr V872 g10 none):=lH (NumOr.under A10V87.out hbN)
  have A9V872:Hid (NumOr V872 g9 none):=lH (NumOr.under A9V87.out hbN)
  clear hbN
  clear HSV87 A10V87 A9V87
  go_simp
  refine hK.out _ _ (HSV872.out) (fun hHeld=>?_)
  clear hK K
  try simp only [aP]
  refine rdy 6 ⟨some 64,.call ⟨ .value (.func 56),#[.tmp 62,.tmp 63],#[67,67]⟩,67,_,_,none⟩ rfl (fun K hK=>?_)
  go_simp
  refine (mulE V872 (HM4.out.under HSV872.out) j.x bh Hx.out Hbh.out (by rw [←Evv.out];exact Hvv.out)).mono ?_
  rintro e V8726 ⟨rfl,hbN⟩
  have HSV8726:=lH (HSV872.out.trans (hbN.mono HSV872.out.size))
  have A10V8726:Hid (NumOr V8726 g10 none):=lH (NumOr.under A10V872.out hbN)
  have A9V8726:Hid (NumOr V8726 g9 none):=lH (NumOr.under A9V872.out hbN)
  clear hbN
  clear HSV872 A10V872 A9V872
  go_simp
  refine hK.out _ _ (HSV8726.out) (fun hHeld=>?_)
  clear hK K
  try simp only [aP]
  refine rdy 9 ⟨none,.store 67 (.tmp 9) (.tmp 60),0,_,_,none⟩ rfl (fun K hK=>?_)
  obtain ⟨zv0,zv1,zv2,zv3,⟨z0,o0⟩,⟨z1,o1⟩,⟨z2,o2⟩,⟨z3,o3⟩⟩:=NumOr.facts A9V8726.out
  obtain ⟨V87269,hN⟩:∃ W,W=((((V8726.setCell ⟨g9,0,none⟩ (.int .u64 (ch0:Int))).setCell ⟨g9,1,none⟩ (.int .u64 (ch1:Int))).setCell ⟨g9,2,none⟩ (.int .u64 (ch2:Int))).setCell ⟨g9,3,none⟩ (.int .u64 (ch3:Int))):=⟨_,rfl⟩
  go_simp
  rw [←hN]
  have A9V87269:Hid (NumOr V87269 g9 (some (en ch))):=lH (by rw [hN];exact NumOr.set A9V8726.out Hch.out)
  have HSV87269:=lH (by rw [hN];exact below4 HSV8726.out HG9.out _ _ _ _:Below u4.heap.size u4 V87269)
  have A10V87269:Hid (NumOr V87269 g10 none):=lH (by rw [hN];exact NumOr.aside4 A10V8726.out HNE109.out _ _ _ _)
  clear hN z0 o0 z1 o1 z2 o2 z3 o3 zv0 zv1 zv2 zv3
  clear HSV8726 A10V8726 A9V8726
  refine hK.out _ _ (HSV87269.out) (fun hHeld=>?_)
  clear hK K
  try simp only [aP]
  refine rdy 10 ⟨none,.store 67 (.tmp 10) (.tmp 64),0,_,_,none⟩ rfl (fun K hK=>?_)
  obtain ⟨zv0,zv1,zv2,zv3,⟨z0,o0⟩,⟨z1,o1⟩,⟨z2,o2⟩,⟨z3,o3⟩⟩:=NumOr.facts A10V87269.out
  obtain ⟨V87269a,hN⟩:∃ W,W=((((V87269.setCell ⟨g10,0,none⟩ (.int .u64 (vv0:Int))).setCell ⟨g10,1,none⟩ (.int .u64 (vv1:Int))).setCell ⟨g10,2,none⟩ (.int .u64 (vv2:Int))).setCell ⟨g10,3,none⟩ (.int .u64 (vv3:Int))):=⟨_,rfl⟩
  go_simp
  rw [←hN]
  have A10V87269a:Hid (NumOr V87269a g10 (some (en vv))):=lH (by rw [hN];exact NumOr.set A10V87269.out Hvv.out)
  have HSV87269a:=lH (by rw [hN];exact below4 HSV87269.out HG10.out _ _ _ _:Below u4.heap.size u4 V87269a)
  have A9V87269a:Hid (NumOr V87269a g9 (some (en ch))):=lH (by rw [hN];exact NumOr.aside4 A9V87269.out HNE109.out.symm _ _ _ _)
  clear hN z0 o0 z1 o1 z2 o2 z3 o3 zv0 zv1 zv2 zv3
  clear HSV87269 A10V87269 A9V87269
  refine hK.out _ _ (HSV87269a.out) (fun hHeld=>?_)
  clear hK K
  try simp only [aP]
  refine wpAnyH_done (by kernel_rfl) ?_ _
  refine NoPanic.normal ?_
  rw [HQ13.out]
  exact ⟨rfl,g9,g10,rfl,rfl,HF.out _ HSV87269a.out,A9V87269a.out,A10V87269a.out,HU0.out,HU1.out⟩
 rintro e a u5 hq
 rw [HQ13.out] at hq
 obtain ⟨rfl,g9,g10,htm,hdf,hst⟩:=hq
 have ST5:=lH hst
 clear hst HQ13 ST4
 obtain ⟨tm,df⟩:=a
 dsimp only at htm hdf
 subst hdf
 obtain ⟨U,hU⟩:∃ U:Nat→Value,∀ i,tm.getD i undef=U i:=⟨_,fun _=>rfl⟩
 simp only [tG,hU] at htm
 clear hU
 subst htm
 go_step
 go_step
 (repeat (first | (apply wp_seq_k;intro _ _) | apply wp_block))
 obtain ⟨QQ14,HQ14⟩:∃ Q:Exit→Act→World→Prop,Hid (Q=fun e a W=>e = .normal∧∃ (g11:Nat),a.tmps=#[tG a 0,tG a 1,.pointer (some ⟨w.heap.size,0,none⟩),.pointer (some ⟨w.heap.size+1,0,none⟩),.pointer (some ⟨w.heap.size+1+1,0,none⟩),.pointer (some ⟨g5,0,none⟩),.pointer (some ⟨g6,0,none⟩),.pointer (some ⟨g7,0,none⟩),.pointer (some ⟨g8,0,none⟩),.pointer (some ⟨g9,0,none⟩),.pointer (some ⟨g10,0,none⟩),.pointer (some ⟨g11,0,none⟩),tG a 12,tG a 13,tG a 14,tG a 15,tG a 16,tG a 17,tG a 18,tG a 19,tG a 20,tG a 21,tG a 22,tG a 23,tG a 24,tG a 25,tG a 26,tG a 27,tG a 28,tG a 29,tG a 30,tG a 31,tG a 32,tG a 33,tG a 34,tG a 35,tG a 36,tG a 37,tG a 38,tG a 39,tG a 40,tG a 41,tG a 42,tG a 43,tG a 44,tG a 45,tG a 46,tG a 47,tG a 48,tG a 49,tG a 50,tG a 51,tG a 52,tG a 53,tG a 54,tG a 55,tG a 56,tG a 57,tG a 58,tG a 59,tG a 60,tG a 61,tG a 62,tG a 63,tG a 64,tG a 65,tG a 66,tG a 67,tG a 68,tG a 69,tG a 70,tG a 71,tG a 72,tG a 73,tG a 74,tG a 75,tG a 76,tG a 77,tG a 78,tG a 79,tG a 80,tG a 81,tG a 82,tG a 83,tG a 84,tG a 85,tG a 86,tG a 87,tG a 88,tG a 89]∧a.defers=[]∧(((((((Holds W w.heap.size 69 #[.int .u64 (x0:Int),.int .u64 (x1:Int),.int .u64 (x2:Int),.int .u64 (x3:Int),.int .u64 (y0:Int),.int .u64 (y1:Int),.int .u64 (y2:Int),.int .u64 (y3:Int),.int .u64 (z0:Int),.int .u64 (z1:Int),.int .u64 (z2:Int),.int .u64 (z3:Int)])∧(Holds W (w.heap.size+1+1) 69 #[.int .u64 0,.int .u64 0,.int .u64 0,.int .u64 0,.int .u64 0,.int .u64 0,.int .u64 0,.int .u64 0,.int .u64 0,.int .u64 0,.int .u64 0,.int .u64 0])∧(Below w.heap.size w W)∧(CMet W)∧(Holds W (w.heap.size+1) 26 #[.slice Ax lx.length cx,.slice Ay ly.length cy,.bool false])∧(Rd .u32 W W.heap.size Ax cx lx)∧(Rd .u32 W W.heap.size Ay cy ly))∧(NumOr W g5 (some (en zz)))∧(w.heap.size+1+1<g5))∧(NumOr W g6 (some (en ah)))∧(w.heap.size+1+1<g6))∧(NumOr W g7 (some (en ar)))∧(w.heap.size+1+1<g7))∧(NumOr W g8 (some (en bh)))∧(w.heap.size+1+1<g8))∧(NumOr W g9 (some (en ch)))∧(NumOr W g10 (some (en vv)))∧(w.heap.size+1+1<g9)∧(w.heap.size+1+1<g10))∧(NumOr W g11 (some (en X)))∧(w.heap.size+1+1<g11)):=⟨_,lH rfl⟩
 refine Code.wp_mono (Q:=QQ14) ?_ ?_
 rotate_left 1
 ·have BX5:=lH (ST5.out.1.1.1.1.1.1)
  have RB5:=lH (ST5.out.1.1.1.1.1.2.1)
  have HB5:=lH (ST5.out.1.1.1.1.1.2.2.1)
  have HM5:=lH (ST5.out.1.1.1.1.1.2.2.2.1)
  have PB5:=lH (ST5.out.1.1.1.1.1.2.2.2.2.1)
  have RX5:=lH (ST5.out.1.1.1.1.1.2.2.2.2.2.1)
  have RY5:=lH (ST5.out.1.1.1.1.1.2.2.2.2.2.2)
  have L5_5:=lH (ST5.out.1.1.1.1.2.1)
  have NB_5:=lH (ST5.out.1.1.1.1.2.2)
  have L6_5:=lH (ST5.out.1.1.1.2.1)
  have NB_6:=lH (ST5.out.1.1.1.2.2)
  have L7_5:=lH (ST5.out.1.1.2.1)
  have NB_7:=lH (ST5.out.1.1.2.2)
  have L8_5:=lH (ST5.out.1.2.1)
  have NB_8:=lH (ST5.out.1.2.2)
  have L9_5:=lH (ST5.out.2.1)
  have L10_5:=lH (ST5.out.2.2.1)
  have NB_9:=lH (ST5.out.2.2.2.1)
  have NB_10:=lH (ST5.out.2.2.2.2)
  have Har:=lH (FU.out.2.2.2.2.2.2.2.2.2.2.2.2.2.2)
  have Err:=lH (FW.out.2.2.2.1)
  have Es1:=lH (FW.out.2.2.2.2.1)
  have Ev2:=lH (FW.out.2.2.2.2.2.1)
  have EX:=lH (FW.out.2.2.2.2.2.2.1)
  have Hch:=lH (FW.out.2.2.2.2.2.2.2.2.2.2.2.2.2.1)
  have Hvv:=lH (FW.out.2.2.2.2.2.2.2.2.2.2.2.2.2.2.1)
  have Hrr:=lH (FW.out.2.2.2.2.2.2.2.2.2.2.2.2.2.2.2.1)
  have Hs1:=lH (FW.out.2.2.2.2.2.2.2.2.2.2.2.2.2.2.2.2.1)
  have Hv2:=lH (FW.out.2.2.2.2.2.2.2.2.2.2.2.2.2.2.2.2.2.1)
  have HX:=lH (FW.out.2.2.2.2.2.2.2.2.2.2.2.2.2.2.2.2.2.2.1)
  clear ST5 FV FU FW
  have HF:Hid (∀ W,Below u5.heap.size u5 W→((((((Holds W w.heap.size 69 #[.int .u64 (x0:Int),.int .u64 (x1:Int),.int .u64 (x2:Int),.int .u64 (x3:Int),.int .u64 (y0:Int),.int .u64 (y1:Int),.int .u64 (y2:Int),.int .u64 (y3:Int),.int .u64 (z0:Int),.int .u64 (z1:Int),.int .u64 (z2:Int),.int .u64 (z3:Int)])∧(Holds W (w.heap.size+1+1) 69 #[.int .u64 0,.int .u64 0,.int .u64 0,.int .u64 0,.int .u64 0,.int .u64 0,.int .u64 0,.int .u64 0,.int .u64 0,.int .u64 0,.int .u64 0,.int .u64 0])∧(Below w.heap.size w W)∧(CMet W)∧(Holds W (w.heap.size+1) 26 #[.slice Ax lx.length cx,.slice Ay ly.length cy,.bool false])∧(Rd .u32 W W.heap.size Ax cx lx)∧(Rd .u32 W W.heap.size Ay cy ly))∧(NumOr W g5 (some (en zz)))∧(w.heap.size+1+1<g5))∧(NumOr W g6 (some (en ah)))∧(w.heap.size+1+1<g6))∧(NumOr W g7 (some (en ar)))∧(w.heap.size+1+1<g7))∧(NumOr W g8 (some (en bh)))∧(w.heap.size+1+1<g8))∧(NumOr W g9 (some (en ch)))∧(NumOr W g10 (some (en vv)))∧(w.heap.size+1+1<g9)∧(w.heap.size+1+1<g10)):=lH fun W h=>⟨⟨⟨⟨⟨⟨BX5.out.under h (Holds.lt BX5.out),RB5.out.under h (Holds.lt RB5.out),HB5.out.trans (h.mono HB5.out.size),HM5.out.under h,PB5.out.under h (Holds.lt PB5.out),(RX5.out.under h).more h.size,(RY5.out.under h).more h.size⟩,NumOr.under L5_5.out h,NB_5.out⟩,NumOr.under L6_5.out h,NB_6.out⟩,NumOr.under L7_5.out h,NB_7.out⟩,NumOr.under L8_5.out h,NB_8.out⟩,NumOr.under L9_5.out h,NumOr.under L10_5.out h,NB_9.out,NB_10.out⟩
  refine wp_region_noPanic ?_
  refine wp_region_held_drew (S:=fun W=>Below u5.heap.size u5 W) (by kernel_rfl) ((Below.refl _ u5).drew) (fun hHeld=>?_)
  obtain ⟨V,hV⟩:∃ W,W=u5.drew:=⟨_,rfl⟩
  rw [←hV]
  have HSV:Hid (Below u5.heap.size u5 V):=lH (by rw [hV];exact (Below.refl _ u5).drew)
  replace hHeld:(fun W=>Below u5.heap.size u5 W) V:=HSV.out
  clear hV
  refine tk 0 ⟨some 65,.load 67 (.tmp 7),67,_,_,none⟩ ?_ rfl ?_ hHeld ?_
  rotate_left 1
  ·(intro W hW;have hBC:=(NumOr.under L7_5.out hW).cells Har.out;obtain ⟨q0,q1,q2,q3⟩:=hBC;(try dsimp only at hW);go_simp;try with_reducible rfl)
  try simp only [aP]
  refine tk 1 ⟨some 66,.load 67 (.tmp 7),67,_,_,none⟩ ?_ rfl ?_ hHeld ?_
  rotate_left 1
  ·(intro W hW;have hBC:=(NumOr.under L7_5.out hW).cells Har.out;obtain ⟨q0,q1,q2,q3⟩:=hBC;(try dsimp only at hW);go_simp;try with_reducible rfl)
  try simp only [aP]
  refine tk 3 ⟨some 68,.load 67 (.tmp 9),67,_,_,none⟩ ?_ rfl ?_ hHeld ?_
  rotate_left 1
  ·(intro W hW;have hBC:=(NumOr.under L9_5.out hW).cells Hch.out;obtain ⟨q0,q1,q2,q3⟩:=hBC;(try dsimp only at hW);go_simp;try with_reducible rfl)
  try simp only [aP]
  refine tk 5 ⟨some 70,.load 67 (.tmp 10),67,_,_,none⟩ ?_ rfl ?_ hHeld ?_
  rotate_left 1
  ·(intro W hW;have hBC:=(NumOr.under L10_5.out hW).cells Hvv.out;obtain ⟨q0,q1,q2,q3⟩:=hBC;(try dsimp only at hW);go_simp;try with_reducible rfl)
  try simp only [aP]
  refine wpAnyH_ready (rs:=[2,8]) (by kernel_rfl) (by simp) ?_
  refine AllReadyH.cons (o:=⟨some 67,.call ⟨ .value (.func 56),#[.tmp 65,.tmp 66],#[67,67]⟩,67,_,_,none⟩) rfl (fun K hK=>?_) ?_
  go_simp
  refine (mulE V (HM5.out.under HSV.out) ar ar Har.out Har.out (by rw [←Err.out];exact Hrr.out)).mono ?_
  rintro e V2 ⟨rfl,hbN⟩
  have HSV2:=lH (HSV.out.trans (hbN.mono HSV.out.size))
  clear hbN
  clear HSV
  go_simp
  refine hK.out _ _ (HSV2.out) (fun hHeld=>?_)
  clear hK K
  try simp only [aP]
  refine wpAnyH_ready (rs:=[4,8]) (by kernel_rfl) (by simp) ?_
  refine AllReadyH.cons (o:=⟨some 69,.call ⟨ .value (.func 55),#[.tmp 67,.tmp 68],#[67,67]⟩,67,_,_,none⟩) rfl (fun K hK=>?_) ?_
  go_simp
  refine (subE V2 (HM5.out.under HSV2.out) rr ch Hrr.out Hch.out (by rw [←Es1.out];exact Hs1.out)).mono ?_
  rintro e V24 ⟨rfl,hbN⟩
  have HSV24:=lH (HSV2.out.trans (hbN.mono HSV2.out.size))
  clear hbN
  clear HSV2
  go_simp
  refine hK.out _ _ (HSV24.out) (fun hHeld=>?_)
  clear hK K
  try simp only [aP]
  refine wpAnyH_ready (rs:=[6,8]) (by kernel_rfl) (by simp) ?_
  refine AllReadyH.cons (o:=⟨some 71,.call ⟨ .value (.func 78),#[.tmp 70],#[67]⟩,67,_,_,none⟩) rfl (fun K hK=>?_) ?_
  go_simp
  refine (twiceE V24 (HM5.out.under HSV24.out) vv Hvv.out (by rw [←Ev2.out];exact Hv2.out)).mono ?_
  rintro e V246 ⟨rfl,hbN⟩
  have HSV246:=lH (HSV24.out.trans (hbN.mono HSV24.out.size))
  clear hbN
  clear HSV24
  go_simp
  refine hK.out _ _ (HSV246.out) (fun hHeld=>?_)
  clear hK K
  try simp only [aP]
  refine wpAnyH_ready (rs:=[7,8]) (by kernel_rfl) (by simp) ?_
  refine AllReadyH.cons (o:=⟨some 72,.call ⟨ .value (.func 55),#[.tmp 69,.tmp 71],#[67,67]⟩,67,_,_,none⟩) rfl (fun K hK=>?_) ?_
  go_simp
  refine (subE V246 (HM5.out.under HSV246.out) s1 v2 Hs1.out Hv2.out (by rw [←EX.out];exact HX.out)).mono ?_
  rintro e V2467 ⟨rfl,hbN⟩
  have HSV2467:=lH (HSV246.out.trans (hbN.mono HSV246.out.size))
  clear hbN
  clear HSV246
  go_simp
  refine hK.out _ _ (HSV2467.out) (fun hHeld=>?_)
  clear hK K
  try simp only [aP]
  refine rdy 8 ⟨some 11,.alloc 67,0,_,_,none⟩ rfl (fun K hK=>?_)
  obtain ⟨V24678,hN⟩:∃ W,W=V2467.alloc (.cells #[.int .u64 0,.int .u64 0,.int .u64 0,.int .u64 0] 67):=⟨_,rfl⟩
  go_simp
  rw [←hN]
  obtain ⟨g11,hg⟩:∃ g,g=V2467.heap.size:=⟨_,rfl⟩
  rw [←hg]
  have A11V24678:Hid (NumOr V24678 g11 none):=lH (by rw [hN,hg];exact NumOr.fresh _)
  have HSV24678:=lH (by rw [hN];exact HSV2467.out.alloc HSV2467.out.size _:Below u5.heap.size u5 V24678)
  have HG11:Hid (u5.heap.size≤g11):=lH (by rw [hg];exact HSV2467.out.size)
  clear hN hg
  have HU0:=lH (show w.heap.size+1+1<g11 from (by have h1:=Holds.lt RB5.out;have h2:=HG11.out;omega))
  clear HSV2467
  refine hK.out _ _ (HSV24678.out) (fun hHeld=>?_)
  clear hK K
  try simp only [aP]
  refine rdy 9 ⟨none,.store 67 (.tmp 11) (.tmp 72),0,_,_,none⟩ rfl (fun K hK=>?_)
  obtain ⟨zv0,zv1,zv2,zv3,⟨z0,o0⟩,⟨z1,o1⟩,⟨z2,o2⟩,⟨z3,o3⟩⟩:=NumOr.facts A11V24678.out
  obtain ⟨V246789,hN⟩:∃ W,W=((((V24678.setCell ⟨g11,0,none⟩ (.int .u64 (X0:Int))).setCell ⟨g11,1,none⟩ (.int .u64 (X1:Int))).setCell ⟨g11,2,none⟩ (.int .u64 (X2:Int))).setCell ⟨g11,3,none⟩ (.int .u64 (X3:Int))):=⟨_,rfl⟩
  go_simp
  rw [←hN]
  have A11V246789:Hid (NumOr V246789 g11 (some (en X))):=lH (by rw [hN];exact NumOr.set A11V24678.out HX.out)
  have HSV246789:=lH (by rw [hN];exact below4 HSV24678.out HG11.out _ _ _ _:Below u5.heap.size u5 V246789)
  clear hN z0 o0 z1 o1 z2 o2 z3 o3 zv0 zv1 zv2 zv3
  clear HSV24678 A11V24678
  refine hK.out _ _ (HSV246789.out) (fun hHeld=>?_)
  clear hK K
  try simp only [aP]
  refine wpAnyH_done (by kernel_rfl) ?_ _
  refine NoPanic.normal ?_
  rw [HQ14.out]
  exact ⟨rfl,g11,rfl,rfl,HF.out _ HSV246789.out,A11V246789.out,HU0.out⟩
  refine AllReadyH.cons (o:=⟨some 11,.alloc 67,0,_,_,none⟩) rfl (fun K hK=>?_) AllReadyH.nil
  obtain ⟨V2468,hN⟩:∃ W,W=V246.alloc (.cells #[.int .u64 0,.int .u64 0,.int .u64 0,.int .u64 0] 67):=⟨_,rfl⟩
  go_simp
  rw [←hN]
  obtain ⟨g11,hg⟩:∃ g,g=V246.heap.size:=⟨_,rfl⟩
  rw [←hg]
  have A11V2468:Hid (NumOr V2468 g11 none):=lH (by rw [hN,hg];exact NumOr.fresh _)
  have HSV2468:=lH (by rw [hN];exact HSV246.out.alloc HSV246.out.size _:Below u5.heap.size u5 V2468)
  have HG11:Hid (u5.heap.size≤g11):=lH (by rw [hg];exact HSV246.out.size)
  clear hN hg
  have HU0:=lH (show w.heap.size+1+1<g11 from (by have h1:=Holds.lt RB5.out;have h2:=HG11.out;omega))
  clear HSV246
  refine hK.out _ _ (HSV2468.out) (fun hHeld=>?_)
  clear hK K
  try simp only [aP]
  refine rdy 7 ⟨some 72,.call ⟨ .value (.func 55),#[.tmp 69,.tmp 71],#[67,67]⟩,67,_,_,none⟩ rfl (fun K hK=>?_)
  go_simp
  refine (subE V2468 (HM5.out.under HSV2468.out) s1 v2 Hs1.out Hv2.out (by rw [←EX.out];exact HX.out)).mono ?_
  rintro e V24687 ⟨rfl,hbN⟩
  have HSV24687:=lH (HSV2468.out.trans (hbN.mono HSV2468.out.size))
  have A11V24687:Hid (NumOr V24687 g11 none):=lH (NumOr.under A11V2468.out hbN)
  clear hbN
  clear HSV2468 A11V2468
  go_simp
  refine hK.out _ _ (HSV24687.out) (fun hHeld=>?_)
  clear hK K
  try simp only [aP]
  refine rdy 9 ⟨none,.store 67 (.tmp 11) (.tmp 72),0,_,_,none⟩ rfl (fun K hK=>?_)
  obtain ⟨zv0,zv1,zv2,zv3,⟨z0,o0⟩,⟨z1,o1⟩,⟨z2,o2⟩,⟨z3,o3⟩⟩:=NumOr.facts A11V24687.out
  obtain ⟨V246879,hN⟩:∃ W,W=((((V24687.setCell ⟨g11,0,none⟩ (.int .u64 (X0:Int))).setCell ⟨g11,1,none⟩ (.int .u64 (X1:Int))).setCell ⟨g11,2,none⟩ (.int .u64 (X2:Int))).setCell ⟨g11,3,none⟩ (.int .u64 (X3:Int))):=⟨_,rfl⟩
  go_simp
  rw [←hN]
  have A11V246879:Hid (NumOr V246879 g11 (some (en X))):=lH (by rw [hN];exact NumOr.set A11V24687.out HX.out)
  have HSV246879:=lH (by rw [hN];exact below4 HSV24687.out HG11.out _ _ _ _:Below u5.heap.size u5 V246879)
  clear hN z0 o0 z1 o1 z2 o2 z3 o3 zv0 zv1 zv2 zv3
  clear HSV24687 A11V24687
  refine hK.out _ _ (HSV246879.out) (fun hHeld=>?_)
  clear hK K
  try simp only [aP]
  refine wpAnyH_done (by kernel_rfl) ?_ _
  refine NoPanic.normal ?_
  rw [HQ14.out]
  exact ⟨rfl,g11,rfl,rfl,HF.out _ HSV246879.out,A11V246879.out,HU0.out⟩
  refine AllReadyH.cons (o:=⟨some 11,.alloc 67,0,_,_,none⟩) rfl (fun K hK=>?_) AllReadyH.nil
  obtain ⟨V248,hN⟩:∃ W,W=V24.alloc (.cells #[.int .u64 0,.int .u64 0,.int .u64 0,.int .u64 0] 67):=⟨_,rfl⟩
  go_simp
  rw [←hN]
  obtain ⟨g11,hg⟩:∃ g,g=V24.heap.size:=⟨_,rfl⟩
  rw [←hg]
  have A11V248:Hid (NumOr V248 g11 none):=lH (by rw [hN,hg];exact NumOr.fresh _)
  have HSV248:=lH (by rw [hN];exact HSV24.out.alloc HSV24.out.size _:Below u5.heap.size u5 V248)
  have HG11:Hid (u5.heap.size≤g11):=lH (by rw [hg];exact HSV24.out.size)
  clear hN hg
  have HU0:=lH (show w.heap.size+1+1<g11 from (by have h1:=Holds.lt RB5.out;have h2:=HG11.out;omega))
  clear HSV24
  refine hK.out _ _ (HSV248.out) (fun hHeld=>?_)
  clear hK K
  try simp only [aP]
  refine rdy 6 ⟨some 71,.call ⟨ .value (.func 78),#[.tmp 70],#[67]⟩,67,_,_,none⟩ rfl (fun K hK=>?_)
  go_simp
  refine (twiceE V248 (HM5.out.under HSV248.out) vv Hvv.out (by rw [←Ev2.out];exact Hv2.out)).mono ?_
  rintro e V2486 ⟨rfl,hbN⟩
  have HSV2486:=lH (HSV248.out.trans (hbN.mono HSV248.out.size))
  have A11V2486:Hid (NumOr V2486 g11 none):=lH (NumOr.under A11V248.out hbN)
  clear hbN
  clear HSV248 A11V248
  go_simp
  refine hK.out _ _ (HSV2486.out) (fun hHeld=>?_)
  clear hK K
  try simp only [aP]
  refine rdy 7 ⟨some 72,.call ⟨ .value (.func 55),#[.tmp 69,.tmp 71],#[67,67]⟩,67,_,_,none⟩ rfl (fun K hK=>?_)
  go_simp
  refine (subE V2486 (HM5.out.under HSV2486.out) s1 v2 Hs1.out Hv2.out (by rw [←EX.out];exact HX.out)).mono ?_
  rintro e V24867 ⟨rfl,hbN⟩
  have HSV24867:=lH (HSV2486.out.trans (hbN.mono HSV2486.out.size))
  have A11V24867:Hid (NumOr V24867 g11 none):=lH (NumOr.under A11V2486.out hbN)
  clear hbN
  clear HSV2486 A11V2486
  go_simp
  refine hK.out _ _ (HSV24867.out) (fun hHeld=>?_)
  clear hK K
  try simp only [aP]
  refine rdy 9 ⟨none,.store 67 (.tmp 11) (.tmp 72),0,_,_,none⟩ rfl (fun K hK=>?_)
  obtain ⟨zv0,zv1,zv2,zv3,⟨z0,o0⟩,⟨z1,o1⟩,⟨z2,o2⟩,⟨z3,o3⟩⟩:=NumOr.facts A11V24867.out
  obtain ⟨V248679,hN⟩:∃ W,W=((((V24867.setCell ⟨g11,0,none⟩ (.int .u64 (X0:Int))).setCell ⟨g11,1,none⟩ (.int .u64 (X1:Int))).setCell ⟨g11,2,none⟩ (.int .u64 (X2:Int))).setCell ⟨g11,3,none⟩ (.int .u64 (X3:Int))):=⟨_,rfl⟩
  go_simp
  rw [←hN]
  have A11V248679:Hid (NumOr V248679 g11 (some (en X))):=lH (by rw [hN];exact NumOr.set A11V24867.out HX.out)
  have HSV248679:=lH (by rw [hN];exact below4 HSV24867.out HG11.out _ _ _ _:Below u5.heap.size u5 V248679)
  clear hN z0 o0 z1 o1 z2 o2 z3 o3 zv0 zv1 zv2 zv3
  clear HSV24867 A11V24867
  refine hK.out _ _ (HSV248679.out) (fun hHeld=>?_)
  clear hK K
  try simp only [aP]
  refine wpAnyH_done (by kernel_rfl) ?_ _
  refine NoPanic.normal ?_
  rw [HQ14.out]
  exact ⟨rfl,g11,rfl,rfl,HF.out _ HSV248679.out,A11V248679.out,HU0.out⟩
  refine AllReadyH.cons (o:=⟨some 11,.alloc 67,0,_,_,none⟩) rfl (fun K hK=>?_) AllReadyH.nil
  obtain ⟨V28,hN⟩:∃ W,W=V2.alloc (.cells #[.int .u64 0,.int .u64 0,.int .u64 0,.int .u64 0] 67):=⟨_,rfl⟩
  go_simp
  rw [←hN]
  obtain ⟨g11,hg⟩:∃ g,g=V2.heap.size:=⟨_,rfl⟩
  rw [←hg]
  have A11V28:Hid (NumOr V28 g11 none):=lH (by rw [hN,hg];exact NumOr.fresh _)
  have HSV28:=lH (by rw [hN];exact HSV2.out.alloc HSV2.out.size _:Below u5.heap.size u5 V28)
  have HG11:Hid (u5.heap.size≤g11):=lH (by rw [hg];exact HSV2.out.size)
  clear hN hg
  have HU0:=lH (show w.heap.size+1+1<g11 from (by have h1:=Holds.lt RB5.out;have h2:=HG11.out;omega))
  clear HSV2
  refine hK.out _ _ (HSV28.out) (fun hHeld=>?_)
  clear hK K
  try simp only [aP]
  refine rdy 4 ⟨some 69,.call ⟨ .value (.func 55),#[.tmp 67,.tmp 68],#[67,67]⟩,67,_,_,none⟩ rfl (fun K hK=>?_)
  go_simp
  refine (subE V28 (HM5.out.under HSV28.out) rr ch Hrr.out Hch.out (by rw [←Es1.out];exact Hs1.out)).mono ?_
  rintro e V284 ⟨rfl,hbN⟩
  have HSV284:=lH (HSV28.out.trans (hbN.mono HSV28.out.size))
  have A11V284:Hid (NumOr V284 g11 none):=lH (NumOr.under A11V28.out hbN)
  clear hbN
  clear HSV28 A11V28
  go_simp
  refine hK.out _ _ (HSV284.out) (fun hHeld=>?_)
  clear hK K
  try simp only [aP]
  refine rdy 6 ⟨some 71,.call ⟨ .value (.func 78),#[.tmp 70],#[67]⟩,67,_,_,none⟩ rfl (fun K hK=>?_)
  go_simp
  refine (twiceE V284 (HM5.out.under HSV284.out) vv Hvv.out (by rw [←Ev2.out];exact Hv2.out)).mono ?_
  rintro e V2846 ⟨rfl,hbN⟩
  have HSV2846:=lH (HSV284.out.trans (hbN.mono HSV284.out.size))
  have A11V2846:Hid (NumOr V2846 g11 none):=lH (NumOr.under A11V284.out hbN)
  clear hbN
  clear HSV284 A11V284
  go_simp
  refine hK.out _ _ (HSV2846.out) (fun hHeld=>?_)
  clear hK K
  try simp only [aP]
  refine rdy 7 ⟨some 72,.call ⟨ .value (.func 55),#[.tmp 69,.tmp 71],#[67,67]⟩,67,_,_,none⟩ rfl (fun K hK=>?_)
  go_simp
  refine (subE V2846 (HM5.out.under HSV2846.out) s1 v2 Hs1.out Hv2.out (by rw [←EX.out];exact HX.out)).mono ?_
  rintro e V28467 ⟨rfl,hbN⟩
  have HSV28467:=lH (HSV2846.out.trans (hbN.mono HSV2846.out.size))
  have A11V28467:Hid (NumOr V28467 g11 none):=lH (NumOr.under A11V2846.out hbN)
  clear hbN
  clear HSV2846 A11V2846
  go_simp
  refine hK.out _ _ (HSV28467.out) (fun hHeld=>?_)
  clear hK K
  try simp only [aP]
  refine rdy 9 ⟨none,.store 67 (.tmp 11) (.tmp 72),0,_,_,none⟩ rfl (fun K hK=>?_)
  obtain ⟨zv0,zv1,zv2,zv3,⟨z0,o0⟩,⟨z1,o1⟩,⟨z2,o2⟩,⟨z3,o3⟩⟩:=NumOr.facts A11V28467.out
  obtain ⟨V284679,hN⟩:∃ W,W=((((V28467.setCell ⟨g11,0,none⟩ (.int .u64 (X0:Int))).setCell ⟨g11,1,none⟩ (.int .u64 (X1:Int))).setCell ⟨g11,2,none⟩ (.int .u64 (X2:Int))).setCell ⟨g11,3,none⟩ (.int .u64 (X3:Int))):=⟨_,rfl⟩
  go_simp
  rw [←hN]
  have A11V284679:Hid (NumOr V284679 g11 (some (en X))):=lH (by rw [hN];exact NumOr.set A11V28467.out HX.out)
  have HSV284679:=lH (by rw [hN];exact below4 HSV28467.out HG11.out _ _ _ _:Below u5.heap.size u5 V284679)
  clear hN z0 o0 z1 o1 z2 o2 z3 o3 zv0 zv1 zv2 zv3
  clear HSV28467 A11V28467
  refine hK.out _ _ (HSV284679.out) (fun hHeld=>?_)
  clear hK K
  try simp only [aP]
  refine wpAnyH_done (by kernel_rfl) ?_ _
  refine NoPanic.normal ?_
  rw [HQ14.out]
  exact ⟨rfl,g11,rfl,rfl,HF.out _ HSV284679.out,A11V284679.out,HU0.out⟩
  refine AllReadyH.cons (o:=⟨some 11,.alloc 67,0,_,_,none⟩) rfl (fun K hK=>?_) AllReadyH.nil
  obtain ⟨V8,hN⟩:∃ W,W=V.alloc (.cells #[.int .u64 0,.int .u64 0,.int .u64 0,.int .u64 0] 67):=⟨_,rfl⟩
  go_simp
  rw [←hN]
  obtain ⟨g11,hg⟩:∃ g,g=V.heap.size:=⟨_,rfl⟩
  rw [←hg]
  have A11V8:Hid (NumOr V8 g11 none):=lH (by rw [hN,hg];exact NumOr.fresh _)
  have HSV8:=lH (by rw [hN];exact HSV.out.alloc HSV.out.size _:Below u5.heap.size u5 V8)
  have HG11:Hid (u5.heap.size≤g11):=lH (by rw [hg];exact HSV.out.size)
  clear hN hg
  have HU0:=lH (show w.heap.size+1+1<g11 from (by have h1:=Holds.lt RB5.out;have h2:=HG11.out;omega))
  clear HSV
  refine hK.out _ _ (HSV8.out) (fun hHeld=>?_)
  clear hK K
  try simp only [aP]
  refine rdy 2 ⟨some 67,.call ⟨ .value (.func 56),#[.tmp 65,.tmp 66],#[67,67]⟩,67,_,_,none⟩ rfl (fun K hK=>?_)
  go_simp
  refine (mulE V8 (HM5.out.under HSV8.out) ar ar Har.out Har.out (by rw [←Err.out];exact Hrr.out)).mono ?_
  rintro e V82 ⟨rfl,hbN⟩
  have HSV82:=lH (HSV8.out.trans (hbN.mono HSV8.out.size))
  have A11V82:Hid (NumOr V82 g11 none):=lH (NumOr.under A11V8.out hbN)
  clear hbN
  clear HSV8 A11V8
  go_simp
  refine hK.out _ _ (HSV82.out) (fun hHeld=>?_)
  clear hK K
  try simp only [aP]
  refine rdy 4 ⟨some 69,.call ⟨ .value (.func 55),#[.tmp 67,.tmp 68],#[67,67]⟩,67,_,_,none⟩ rfl (fun K hK=>?_)
  go_simp
  refine (subE V82 (HM5.out.under HSV82.out) rr ch Hrr.out Hch.out (by rw [←Es1.out];exact Hs1.out)).mono ?_
  rintro e V824 ⟨rfl,hbN⟩
  have HSV824:=lH (HSV82.out.trans (hbN.mono HSV82.out.size))
  have A11V824:Hid (NumOr V824 g11 none):=lH (NumOr.under A11V82.out hbN)
  clear hbN
  clear HSV82 A11V82
  go_simp
  refine hK.out _ _ (HSV824.out) (fun hHeld=>?_)
  clear hK K
  try simp only [aP]
  refine rdy 6 ⟨some 71,.call ⟨ .value (.func 78),#[.tmp 70],#[67]⟩,67,_,_,none⟩ rfl (fun K hK=>?_)
  go_simp
  refine (twiceE V824 (HM5.out.under HSV824.out) vv Hvv.out (by rw [←Ev2.out];exact Hv2.out)).mono ?_
  rintro e V8246 ⟨rfl,hbN⟩
  have HSV8246:=lH (HSV824.out.trans (hbN.mono HSV824.out.size))
  have A11V8246:Hid (NumOr V8246 g11 none):=lH (NumOr.under A11V824.out hbN)
  clear hbN
  clear HSV824 A11V824
  go_simp
  refine hK.out _ _ (HSV8246.out) (fun hHeld=>?_)
  clear hK K
  try simp only [aP]
  refine rdy 7 ⟨some 72,.call ⟨ .value (.func 55),#[.tmp 69,.tmp 71],#[67,67]⟩,67,_,_,none⟩ rfl (fun K hK=>?_)
  go_simp
  refine (subE V8246 (HM5.out.under HSV8246.out) s1 v2 Hs1.out Hv2.out (by rw [←EX.out];exact HX.out)).mono ?_
  rintro e V82467 ⟨rfl,hbN⟩
  have HSV82467:=lH (HSV8246.out.trans (hbN.mono HSV8246.out.size))
  have A11V82467:Hid (NumOr V82467 g11 none):=lH (NumOr.under A11V8246.out hbN)
  clear hbN
  clear HSV8246 A11V8246
  go_simp
  refine hK.out _ _ (HSV82467.out) (fun hHeld=>?_)
  clear hK K
  try simp only [aP]
  refine rdy 9 ⟨none,.store 67 (.tmp 11) (.tmp 72),0,_,_,none⟩ rfl (fun K hK=>?_)
  obtain ⟨zv0,zv1,zv2,zv3,⟨z0,o0⟩,⟨z1,o1⟩,⟨z2,o2⟩,⟨z3,o3⟩⟩:=NumOr.facts A11V82467.out
  obtain ⟨V824679,hN⟩:∃ W,W=((((V82467.setCell ⟨g11,0,none⟩ (.int .u64 (X0:Int))).setCell ⟨g11,1,none⟩ (.int .u64 (X1:Int))).setCell ⟨g11,2,none⟩ (.int .u64 (X2:Int))).setCell ⟨g11,3,none⟩ (.int .u64 (X3:Int))):=⟨_,rfl⟩
  go_simp
  rw [←hN]
  have A11V824679:Hid (NumOr V824679 g11 (some (en X))):=lH (by rw [hN];exact NumOr.set A11V82467.out HX.out)
  have HSV824679:=lH (by rw [hN];exact below4 HSV82467.out HG11.out _ _ _ _:Below u5.heap.size u5 V824679)
  clear hN z0 o0 z1 o1 z2 o2 z3 o3 zv0 zv1 zv2 zv3
  clear HSV82467 A11V82467
  refine hK.out _ _ (HSV824679.out) (fun hHeld=>?_)
  clear hK K
  try simp only [aP]
  refine wpAnyH_done (by kernel_rfl) ?_ _
  refine NoPanic.normal ?_
  rw [HQ14.out]
  exact ⟨rfl,g11,rfl,rfl,HF.out _ HSV824679.out,A11V824679.out,HU0.out⟩
 rintro e a u6 hq
 rw [HQ14.out] at hq
 obtain ⟨rfl,g11,htm,hdf,hst⟩:=hq
 have ST6:=lH hst
 clear hst HQ14 ST5
 obtain ⟨tm,df⟩:=a
 dsimp only at htm hdf
 subst hdf
 obtain ⟨U,hU⟩:∃ U:Nat→Value,∀ i,tm.getD i undef=U i:=⟨_,fun _=>rfl⟩
 simp only [tG,hU] at htm
 clear hU
 subst htm
 go_step
 go_step
 (repeat (first | (apply wp_seq_k;intro _ _) | apply wp_block))
 obtain ⟨QQ15,HQ15⟩:∃ Q:Exit→Act→World→Prop,Hid (Q=fun e a W=>e = .normal∧∃ (g12:Nat),a.tmps=#[tG a 0,tG a 1,.pointer (some ⟨w.heap.size,0,none⟩),.pointer (some ⟨w.heap.size+1,0,none⟩),.pointer (some ⟨w.heap.size+1+1,0,none⟩),.pointer (some ⟨g5,0,none⟩),.pointer (some ⟨g6,0,none⟩),.pointer (some ⟨g7,0,none⟩),.pointer (some ⟨g8,0,none⟩),.pointer (some ⟨g9,0,none⟩),.pointer (some ⟨g10,0,none⟩),.pointer (some ⟨g11,0,none⟩),.pointer (some ⟨g12,0,none⟩),tG a 13,tG a 14,tG a 15,tG a 16,tG a 17,tG a 18,tG a 19,tG a 20,tG a 21,tG a 22,tG a 23,tG a 24,tG a 25,tG a 26,tG a 27,tG a 28,tG a 29,tG a 30,tG a 31,tG a 32,tG a 33,tG a 34,tG a 35,tG a 36,tG a 37,tG a 38,tG a 39,tG a 40,tG a 41,tG a 42,tG a 43,tG a 44,tG a 45,tG a 46,tG a 47,tG a 48,tG a 49,tG a 50,tG a 51,tG a 52,tG a 53,tG a 54,tG a 55,tG a 56,tG a 57,tG a 58,tG a 59,tG a 60,tG a 61,tG a 62,tG a 63,tG a 64,tG a 65,tG a 66,tG a 67,tG a 68,tG a 69,tG a 70,tG a 71,tG a 72,tG a 73,tG a 74,tG a 75,tG a 76,tG a 77,tG a 78,tG a 79,tG a 80,tG a 81,tG a 82,tG a 83,tG a 84,tG a 85,tG a 86,tG a 87,tG a 88,tG a 89]∧a.defers=[]∧((((((((Holds W w.heap.size 69 #[.int .u64 (x0:Int),.int .u64 (x1:Int),.int .u64 (x2:Int),.int .u64 (x3:Int),.int .u64 (y0:Int),.int .u64 (y1:Int),.int .u64 (y2:Int),.int .u64 (y3:Int),.int .u64 (z0:Int),.int .u64 (z1:Int),.int .u64 (z2:Int),.int .u64 (z3:Int)])∧(Holds W (w.heap.size+1+1) 69 #[.int .u64 0,.int .u64 0,.int .u64 0,.int .u64 0,.int .u64 0,.int .u64 0,.int .u64 0,.int .u64 0,.int .u64 0,.int .u64 0,.int .u64 0,.int .u64 0])∧(Below w.heap.size w W)∧(CMet W)∧(Holds W (w.heap.size+1) 26 #[.slice Ax lx.length cx,.slice Ay ly.length cy,.bool false])∧(Rd .u32 W W.heap.size Ax cx lx)∧(Rd .u32 W W.heap.size Ay cy ly))∧(NumOr W g5 (some (en zz)))∧(w.heap.size+1+1<g5))∧(NumOr W g6 (some (en ah)))∧(w.heap.size+1+1<g6))∧(NumOr W g7 (some (en ar)))∧(w.heap.size+1+1<g7))∧(NumOr W g8 (some (en bh)))∧(w.heap.size+1+1<g8))∧(NumOr W g9 (some (en ch)))∧(NumOr W g10 (some (en vv)))∧(w.heap.size+1+1<g9)∧(w.heap.size+1+1<g10))∧(NumOr W g11 (some (en X)))∧(w.heap.size+1+1<g11))∧(NumOr W g12 (some (en Y)))∧(w.heap.size+1+1<g12)):=⟨_,lH rfl⟩
 refine Code.wp_mono (Q:=QQ15) ?_ ?_
 rotate_left 1
 ·have BX6:=lH (ST6.out.1.1.1.1.1.1.1)
  have RB6:=lH (ST6.out.1.1.1.1.1.1.2.1)
  have HB6:=lH (ST6.out.1.1.1.1.1.1.2.2.1)
  have HM6:=lH (ST6.out.1.1.1.1.1.1.2.2.2.1)
  have PB6:=lH (ST6.out.1.1.1.1.1.1.2.2.2.2.1)
  have RX6:=lH (ST6.out.1.1.1.1.1.1.2.2.2.2.2.1)
  have RY6:=lH (ST6.out.1.1.1.1.1.1.2.2.2.2.2.2)
  have L5_6:=lH (ST6.out.1.1.1.1.1.2.1)
  have NB_5:=lH (ST6.out.1.1.1.1.1.2.2)
  have L6_6:=lH (ST6.out.1.1.1.1.2.1)
  have NB_6:=lH (ST6.out.1.1.1.1.2.2)
  have L7_6:=lH (ST6.out.1.1.1.2.1)
  have NB_7:=lH (ST6.out.1.1.1.2.2)
  have L8_6:=lH (ST6.out.1.1.2.1)
  have NB_8:=lH (ST6.out.1.1.2.2)
  have L9_6:=lH (ST6.out.1.2.1)
  have L10_6:=lH (ST6.out.1.2.2.1)
  have NB_9:=lH (ST6.out.1.2.2.2.1)
  have NB_10:=lH (ST6.out.1.2.2.2.2)
  have L11_6:=lH (ST6.out.2.1)
  have NB_11:=lH (ST6.out.2.2)
  have Hy:=lH (FV.out.2.2.2.2.2.2.2.2.1)
  have Har:=lH (FU.out.2.2.2.2.2.2.2.2.2.2.2.2.2.2)
  have Evx:=lH (FW.out.2.2.2.2.2.2.2.1)
  have Erv:=lH (FW.out.2.2.2.2.2.2.2.2.1)
  have Eyh:=lH (FW.out.2.2.2.2.2.2.2.2.2.1)
  have EY:=lH (FW.out.2.2.2.2.2.2.2.2.2.2.1)
  have Hch:=lH (FW.out.2.2.2.2.2.2.2.2.2.2.2.2.2.1)
  have Hvv:=lH (FW.out.2.2.2.2.2.2.2.2.2.2.2.2.2.2.1)
  have HX:=lH (FW.out.2.2.2.2.2.2.2.2.2.2.2.2.2.2.2.2.2.2.1)
  have Hvx:=lH (FW.out.2.2.2.2.2.2.2.2.2.2.2.2.2.2.2.2.2.2.2.1)
  have Hrv:=lH (FW.out.2.2.2.2.2.2.2.2.2.2.2.2.2.2.2.2.2.2.2.2.1)
  have Hyh:=lH (FW.out.2.2.2.2.2.2.2.2.2.2.2.2.2.2.2.2.2.2.2.2.2.1)
  have HY:=lH (FW.out.2.2.2.2.2.2.2.2.2.2.2.2.2.2.2.2.2.2.2.2.2.2.1)
  clear ST6 FV FU FW
  have HF:Hid (∀ W,Below u6.heap.size u6 W→(((((((Holds W w.heap.size 69 #[.int .u64 (x0:Int),.int .u64 (x1:Int),.int .u64 (x2:Int),.int .u64 (x3:Int),.int .u64 (y0:Int),.int .u64 (y1:Int),.int .u64 (y2:Int),.int .u64 (y3:Int),.int .u64 (z0:Int),.int .u64 (z1:Int),.int .u64 (z2:Int),.int .u64 (z3:Int)])∧(Holds W (w.heap.size+1+1) 69 #[.int .u64 0,.int .u64 0,.int .u64 0,.int .u64 0,.int .u64 0,.int .u64 0,.int .u64 0,.int .u64 0,.int .u64 0,.int .u64 0,.int .u64 0,.int .u64 0])∧(Below w.heap.size w W)∧(CMet W)∧(Holds W (w.heap.size+1) 26 #[.slice Ax lx.length cx,.slice Ay ly.length cy,.bool false])∧(Rd .u32 W W.heap.size Ax cx lx)∧(Rd .u32 W W.heap.size Ay cy ly))∧(NumOr W g5 (some (en zz)))∧(w.heap.size+1+1<g5))∧(NumOr W g6 (some (en ah)))∧(w.heap.size+1+1<g6))∧(NumOr W g7 (some (en ar)))∧(w.heap.size+1+1<g7))∧(NumOr W g8 (some (en bh)))∧(w.heap.size+1+1<g8))∧(NumOr W g9 (some (en ch)))∧(NumOr W g10 (some (en vv)))∧(w.heap.size+1+1<g9)∧(w.heap.size+1+1<g10))∧(NumOr W g11 (some (en X)))∧(w.heap.size+1+1<g11)):=lH fun W h=>⟨⟨⟨⟨⟨⟨⟨BX6.out.under h (Holds.lt BX6.out),RB6.out.under h (Holds.lt RB6.out),HB6.out.trans (h.mono HB6.out.size),HM6.out.under h,PB6.out.under h (Holds.lt PB6.out),(RX6.out.under h).more h.size,(RY6.out.under h).more h.size⟩,NumOr.under L5_6.out h,NB_5.out⟩,NumOr.under L6_6.out h,NB_6.out⟩,NumOr.under L7_6.out h,NB_7.out⟩,NumOr.under L8_6.out h,NB_8.out⟩,NumOr.under L9_6.out h,NumOr.under L10_6.out h,NB_9.out,NB_10.out⟩,NumOr.under L11_6.out h,NB_11.out⟩
  refine wp_region_noPanic ?_
  refine wp_region_held_drew (S:=fun W=>Below u6.heap.size u6 W) (by kernel_rfl) ((Below.refl _ u6).drew) (fun hHeld=>?_)
  obtain ⟨V,hV⟩:∃ W,W=u6.drew:=⟨_,rfl⟩
  rw [←hV]
  have HSV:Hid (Below u6.heap.size u6 V):=lH (by rw [hV];exact (Below.refl _ u6).drew)
  replace hHeld:(fun W=>Below u6.heap.size u6 W) V:=HSV.out
  clear hV
  refine tk 0 ⟨some 73,.load 67 (.tmp 7),67,_,_,none⟩ ?_ rfl ?_ hHeld ?_
  rotate_left 1
  ·(intro W hW;have hBC:=(NumOr.under L7_6.out hW).cells Har.out;obtain ⟨q0,q1,q2,q3⟩:=hBC;(try dsimp only at hW);go_simp;try with_reducible rfl)
  try simp only [aP]
  refine tk 1 ⟨some 74,.load 67 (.tmp 10),67,_,_,none⟩ ?_ rfl ?_ hHeld ?_
  rotate_left 1
  ·(intro W hW;have hBC:=(NumOr.under L10_6.out hW).cells Hvv.out;obtain ⟨q0,q1,q2,q3⟩:=hBC;(try dsimp only at hW);go_simp;try with_reducible rfl)
  try simp only [aP]
  refine tk 2 ⟨some 75,.load 67 (.tmp 11),67,_,_,none⟩ ?_ rfl ?_ hHeld ?_
  rotate_left 1
  ·(intro W hW;have hBC:=(NumOr.under L11_6.out hW).cells HX.out;obtain ⟨q0,q1,q2,q3⟩:=hBC;(try dsimp only at hW);go_simp;try with_reducible rfl)
  try simp only [aP]
  refine tk 5 ⟨some 78,.fieldAddr 69 (.tmp 2) 1,0,_,_,none⟩ ?_ rfl ?_ hHeld ?_
  rotate_left 1
  ·(intro W hW;(try dsimp only at hW);go_simp;try with_reducible rfl)
  try simp only [aP]
  refine tk 6 ⟨some 79,.load 67 (.tmp 78),67,_,_,none⟩ ?_ rfl ?_ hHeld ?_
  rotate_left 1
  ·(intro W hW;have hBB:=BX6.out.under hW (Holds.lt BX6.out);have k4:=hBB.cell 4;have k5:=hBB.cell 5;have k6:=hBB.cell 6;have k7:=hBB.cell 7;(try dsimp only at hW);go_simp;try with_reducible rfl)
  try simp only [aP]
  refine tk 7 ⟨some 80,.load 67 (.tmp 9),67,_,_,none⟩ ?_ rfl ?_ hHeld ?_
  rotate_left 1
  ·(intro W hW;have hBC:=(NumOr.under L9_6.out hW).cells Hch.out;obtain ⟨q0,q1,q2,q3⟩:=hBC;(try dsimp only at hW);go_simp;try with_reducible rfl)
  try simp only [aP]
  refine wpAnyH_ready (rs:=[3,10]) (by kernel_rfl) (by simp) ?_
  refine AllReadyH.cons (o:=⟨some 76,.call ⟨ .value (.func 55),#[.tmp 74,.tmp 75],#[67,67]⟩,67,_,_,none⟩) rfl (fun K hK=>?_) ?_
  go_simp
  refine (subE V (HM6.out.under HSV.out) vv X Hvv.out HX.out (by rw [←Evx.out];exact Hvx.out)).mono ?_
  rintro e V3 ⟨rfl,hbN⟩
  have HSV3:=lH (HSV.out.trans (hbN.mono HSV.out.size))
  clear hbN
  clear HSV
  go_simp
  refine hK.out _ _ (HSV3.out) (fun hHeld=>?_)
  clear hK K
  try simp only [aP]
  refine wpAnyH_ready (rs:=[4,10]) (by kernel_rfl) (by simp) ?_
  refine AllReadyH.cons (o:=⟨some 77,.call ⟨ .value (.func 56),#[.tmp 73,.tmp 76],#[67,67]⟩,67,_,_,none⟩) rfl (fun K hK=>?_) ?_
  go_simp
  refine (mulE V3 (HM6.out.under HSV3.out) ar vx Har.out Hvx.out (by rw [←Erv.out];exact Hrv.out)).mono ?_
  rintro e V34 ⟨rfl,hbN⟩
  have HSV34:=lH (HSV3.out.trans (hbN.mono HSV3.out.size))
  clear hbN
  clear HSV3
  go_simp
  refine hK.out _ _ (HSV34.out) (fun hHeld=>?_)
  clear hK K
  try simp only [aP]
  refine wpAnyH_ready (rs:=[8,10]) (by kernel_rfl) (by simp) ?_
  refine AllReadyH.cons (o:=⟨some 81,.call ⟨ .value (.func 56),#[.tmp 79,.tmp 80],#[67,67]⟩,67,_,_,none⟩) rfl (fun K hK=>?_) ?_
  go_simp
  refine (mulE V34 (HM6.out.under HSV34.out) j.y ch Hy.out Hch.out (by rw [←Eyh.out];exact Hyh.out)).mono ?_
  rintro e V348 ⟨rfl,hbN⟩
  have HSV348:=lH (HSV34.out.trans (hbN.mono HSV34.out.size))
  clear hbN
  clear HSV34
  go_simp
  refine hK.out _ _ (HSV348.out) (fun hHeld=>?_)
  clear hK K
  try simp only [aP]
  refine wpAnyH_ready (rs:=[9,10]) (by kernel_rfl) (by simp) ?_
  refine AllReadyH.cons (o:=⟨some 82,.call ⟨ .value (.func 55),#[.tmp 77,.tmp 81],#[67,67]⟩,67,_,_,none⟩) rfl (fun K hK=>?_) ?_
  go_simp
  refine (subE V348 (HM6.out.under HSV348.out) rv yh Hrv.out Hyh.out (by rw [←EY.out];exact HY.out)).mono ?_
  rintro e V3489 ⟨rfl,hbN⟩
  have HSV3489:=lH (HSV348.out.trans (hbN.mono HSV348.out.size))
  clear hbN
  clear HSV348
  go_simp
  refine hK.out _ _ (HSV3489.out) (fun hHeld=>?_)
  clear hK K
  try simp only [aP]
  refine rdy 10 ⟨some 12,.alloc 67,0,_,_,none⟩ rfl (fun K hK=>?_)
  obtain ⟨V3489a,hN⟩:∃ W,W=V3489.alloc (.cells #[.int .u64 0,.int .u64 0,.int .u64 0,.int .u64 0] 67):=⟨_,rfl⟩
  go_simp
  rw [←hN]
  obtain ⟨g12,hg⟩:∃ g,g=V3489.heap.size:=⟨_,rfl⟩
  rw [←hg]
  have A12V3489a:Hid (NumOr V3489a g12 none):=lH (by rw [hN,hg];exact NumOr.fresh _)
  have HSV3489a:=lH (by rw [hN];exact HSV3489.out.alloc HSV3489.out.size _:Below u6.heap.size u6 V3489a)
  have HG12:Hid (u6.heap.size≤g12):=lH (by rw [hg];exact HSV3489.out.size)
  clear hN hg
  have HU0:=lH (show w.heap.size+1+1<g12 from (by have h1:=Holds.lt RB6.out;have h2:=HG12.out;omega))
  clear HSV3489
  refine hK.out _ _ (HSV3489a.out) (fun hHeld=>?_)
  clear hK K
  try simp only [aP]
  refine rdy 11 ⟨none,.store 67 (.tmp 12) (.tmp 82),0,_,_,none⟩ rfl (fun K hK=>?_)
  obtain ⟨zv0,zv1,zv2,zv3,⟨z0,o0⟩,⟨z1,o1⟩,⟨z2,o2⟩,⟨z3,o3⟩⟩:=NumOr.facts A12V3489a.out
  obtain ⟨V3489ab,hN⟩:∃ W,W=((((V3489a.setCell ⟨g12,0,none⟩ (.int .u64 (Y0:Int))).setCell ⟨g12,1,none⟩ (.int .u64 (Y1:Int))).setCell ⟨g12,2,none⟩ (.int .u64 (Y2:Int))).setCell ⟨g12,3,none⟩ (.int .u64 (Y3:Int))):=⟨_,rfl⟩
  go_simp
  rw [←hN]
  have A12V3489ab:Hid (NumOr V3489ab g12 (some (en Y))):=lH (by rw [hN];exact NumOr.set A12V3489a.out HY.out)
  have HSV3489ab:=lH (by rw [hN];exact below4 HSV3489a.out HG12.out _ _ _ _:Below u6.heap.size u6 V3489ab)
  clear hN z0 o0 z1 o1 z2 o2 z3 o3 zv0 zv1 zv2 zv3
  clear HSV3489a A12V3489a
  refine hK.out _ _ (HSV3489ab.out) (fun hHeld=>?_)
  clear hK K
  try simp only [aP]
  refine wpAnyH_done (by kernel_rfl) ?_ _
  refine NoPanic.normal ?_
  rw [HQ15.out]
  exact ⟨rfl,g12,rfl,rfl,HF.out _ HSV3489ab.out,A12V3489ab.out,HU0.out⟩
  refine AllReadyH.cons (o:=⟨some 12,.alloc 67,0,_,_,none⟩) rfl (fun K hK=>?_) AllReadyH.nil
  obtain ⟨V348a,hN⟩:∃ W,W=V348.alloc (.cells #[.int .u64 0,.int .u64 0,.int .u64 0,.int .u64 0] 67):=⟨_,rfl⟩
  go_simp
  rw [←hN]
  obtain ⟨g12,hg⟩:∃ g,g=V348.heap.size:=⟨_,rfl⟩
  rw [←hg]
  have A12V348a:Hid (NumOr V348a g12 none):=lH (by rw [hN,hg];exact NumOr.fresh _)
  have HSV348a:=lH (by rw [hN];exact HSV348.out.alloc HSV348.out.size _:Below u6.heap.size u6 V348a)
  have HG12:Hid (u6.heap.size≤g12):=lH (by rw [hg];exact HSV348.out.size)
  clear hN hg
  have HU0:=lH (show w.heap.size+1+1<g12 from (by have h1:=Holds.lt RB6.out;have h2:=HG12.out;omega))
  clear HSV348
  refine hK.out _ _ (HSV348a.out) (fun hHeld=>?_)
  clear hK K
  try simp only [aP]
  refine rdy 9 ⟨some 82,.call ⟨ .value (.func 55),#[.tmp 77,.tmp 81],#[67,67]⟩,67,_,_,none⟩ rfl (fun K hK=>?_)
  go_simp
  refine (subE V348a (HM6.out.under HSV348a.out) rv yh Hrv.out Hyh.out (by rw [←EY.out];exact HY.out)).mono ?_
  rintro e V348a9 ⟨rfl,hbN⟩
  have HSV348a9:=lH (HSV348a.out.trans (hbN.mono HSV348a.out.size))
  have A12V348a9:Hid (NumOr V348a9 g12 none):=lH (NumOr.under A12V348a.out hbN)
  clear hbN
  clear HSV348a A12V348a
  go_simp
  refine hK.out _ _ (HSV348a9.out) (fun hHeld=>?_)
  clear hK K
  try simp only [aP]
  refine rdy 11 ⟨none,.store 67 (.tmp 12) (.tmp 82),0,_,_,none⟩ rfl (fun K hK=>?_)
  obtain ⟨zv0,zv1,zv2,zv3,⟨z0,o0⟩,⟨z1,o1⟩,⟨z2,o2⟩,⟨z3,o3⟩⟩:=NumOr.facts A12V348a9.out
  obtain ⟨V348a9b,hN⟩:∃ W,W=((((V348a9.setCell ⟨g12,0,none⟩ (.int .u64 (Y0:Int))).setCell ⟨g12,1,none⟩ (.int .u64 (Y1:Int))).setCell ⟨g12,2,none⟩ (.int .u64 (Y2:Int))).setCell ⟨g12,3,none⟩ (.int .u64 (Y3:Int))):=⟨_,rfl⟩
  go_simp
  rw [←hN]
  have A12V348a9b:Hid (NumOr V348a9b g12 (some (en Y))):=lH (by rw [hN];exact NumOr.set A12V348a9.out HY.out)
  have HSV348a9b:=lH (by rw [hN];exact below4 HSV348a9.out HG12.out _ _ _ _:Below u6.heap.size u6 V348a9b)
  clear hN z0 o0 z1 o1 z2 o2 z3 o3 zv0 zv1 zv2 zv3
  clear HSV348a9 A12V348a9
  refine hK.out _ _ (HSV348a9b.out) (fun hHeld=>?_)
  clear hK K
  try simp only [aP]
  refine wpAnyH_done (by kernel_rfl) ?_ _
  refine NoPanic.normal ?_
  rw [HQ15.out]
  exact ⟨rfl,g12,rfl,rfl,HF.out _ HSV348a9b.out,A12V348a9b.out,HU0.out⟩
  refine AllReadyH.cons (o:=⟨some 12,.alloc 67,0,_,_,none⟩) rfl (fun K hK=>?_) AllReadyH.nil
  obtain ⟨V34a,hN⟩:∃ W,W=V34.alloc (.cells #[.int .u64 0,.int .u64 0,.int .u64 0,.int .u64 0] 67):=⟨_,rfl⟩
  go_simp
  rw [←hN]
  obtain ⟨g12,hg⟩:∃ g,g=V34.heap.size:=⟨_,rfl⟩
  rw [←hg]
  have A12V34a:Hid (NumOr V34a g12 none):=lH (by rw [hN,hg];exact NumOr.fresh _)
  have HSV34a:=lH (by rw [hN];exact HSV34.out.alloc HSV34.out.size _:Below u6.heap.size u6 V34a)
  have HG12:Hid (u6.heap.size≤g12):=lH (by rw [hg];exact HSV34.out.size)
  clear hN hg
  have HU0:=lH (show w.heap.size+1+1<g12 from (by have h1:=Holds.lt RB6.out;have h2:=HG12.out;omega))
  clear HSV34
  refine hK.out _ _ (HSV34a.out) (fun hHeld=>?_)
  clear hK K
  try simp only [aP]
  refine rdy 8 ⟨some 81,.call ⟨ .value (.func 56),#[.tmp 79,.tmp 80],#[67,67]⟩,67,_,_,none⟩ rfl (fun K hK=>?_)
  go_simp
  refine (mulE V34a (HM6.out.under HSV34a.out) j.y ch Hy.out Hch.out (by rw [←Eyh.out];exact Hyh.out)).mono ?_
  rintro e V34a8 ⟨rfl,hbN⟩
  have HSV34a8:=lH (HSV34a.out.trans (hbN.mono HSV34a.out.size))
  have A12V34a8:Hid (NumOr V34a8 g12 none):=lH (NumOr.under A12V34a.out hbN)
  clear hbN
  clear HSV34a A12V34a
  go_simp
  refine hK.out _ _ (HSV34a8.out) (fun hHeld=>?_)
  clear hK K
  try simp only [aP]
  refine rdy 9 ⟨some 82,.call ⟨ .value (.func 55),#[.tmp 77,.tmp 81],#[67,67]⟩,67,_,_,none⟩ rfl (fun K hK=>?_)
  go_simp
  refine (subE V34a8 (HM6.out.under HSV34a8.out) rv yh Hrv.out Hyh.out (by rw [←EY.out];exact HY.out)).mono ?_
  rintro e V34a89 ⟨rfl,hbN⟩
  have HSV34a89:=lH (HSV34a8.out.trans (hbN.mono HSV34a8.out.size))
  have A12V34a89:Hid (NumOr V34a89 g12 none):=lH (NumOr.under A12V34a8.out hbN)
  clear hbN
  clear HSV34a8 A12V34a8
  go_simp
  refine hK.out _ _ (HSV34a89.out) (fun hHeld=>?_)
  clear hK K
  try simp only [aP]
  refine rdy 11 ⟨none,.store 67 (.tmp 12) (.tmp 82),0,_,_,none⟩ rfl (fun K hK=>?_)
  obtain ⟨zv0,zv1,zv2,zv3,⟨z0,o0⟩,⟨z1,o1⟩,⟨z2,o2⟩,⟨z3,o3⟩⟩:=NumOr.facts A12V34a89.out
  obtain ⟨V34a89b,hN⟩:∃ W,W=((((V34a89.setCell ⟨g12,0,none⟩ (.int .u64 (Y0:Int))).setCell ⟨g12,1,none⟩ (.int .u64 (Y1:Int))).setCell ⟨g12,2,none⟩ (.int .u64 (Y2:Int))).setCell ⟨g12,3,none⟩ (.int .u64 (Y3:Int))):=⟨_,rfl⟩
  go_simp
  rw [←hN]
  have A12V34a89b:Hid (NumOr V34a89b g12 (some (en Y))):=lH (by rw [hN];exact NumOr.set A12V34a89.out HY.out)
  have HSV34a89b:=lH (by rw [hN];exact below4 HSV34a89.out HG12.out _ _ _ _:Below u6.heap.size u6 V34a89b)
  clear hN z0 o0 z1 o1 z2 o2 z3 o3 zv0 zv1 zv2 zv3
  clear HSV34a89 A12V34a89
  refine hK.out _ _ (HSV34a89b.out) (fun hHeld=>?_)
  clear hK K
  try simp only [aP]
  refine wpAnyH_done (by kernel_rfl) ?_ _
  refine NoPanic.normal ?_
  rw [HQ15.out]
  exact ⟨rfl,g12,rfl,rfl,HF.out _ HSV34a89b.out,A12V34a89b.out,HU0.out⟩
  refine AllReadyH.cons (o:=⟨some 12,.alloc 67,0,_,_,none⟩) rfl (fun K hK=>?_) AllReadyH.nil
  obtain ⟨V3a,hN⟩:∃ W,W=V3.alloc (.cells #[.int .u64 0,.int .u64 0,.int .u64 0,.int .u64 0] 67):=⟨_,rfl⟩
  go_simp
  rw [←hN]
  obtain ⟨g12,hg⟩:∃ g,g=V3.heap.size:=⟨_,rfl⟩
  rw [←hg]
  have A12V3a:Hid (NumOr V3a g12 none):=lH (by rw [hN,hg];exact NumOr.fresh _)
  have HSV3a:=lH (by rw [hN];exact HSV3.out.alloc HSV3.out.size _:Below u6.heap.size u6 V3a)
  have HG12:Hid (u6.heap.size≤g12):=lH (by rw [hg];exact HSV3.out.size)
  clear hN hg
  have HU0:=lH (show w.heap.size+1+1<g12 from (by have h1:=Holds.lt RB6.out;have h2:=HG12.out;omega))
  clear HSV3
  refine hK.out _ _ (HSV3a.out) (fun hHeld=>?_)
  clear hK K
  try simp only [aP]
  refine rdy 4 ⟨some 77,.call ⟨ .value (.func 56),#[.tmp 73,.tmp 76],#[67,67]⟩,67,_,_,none⟩ rfl (fun K hK=>?_)
  go_simp
  refine (mulE V3a (HM6.out.under HSV3a.out) ar vx Har.out Hvx.out (by rw [←Erv.out];exact Hrv.out)).mono ?_
  rintro e V3a4 ⟨rfl,hbN⟩
  have HSV3a4:=lH (HSV3a.out.trans (hbN.mono HSV3a.out.size))
  have A12V3a4:Hid (NumOr V3a4 g12 none):=lH (NumOr.under A12V3a.out hbN)
  clear hbN
  clear HSV3a A12V3a
  go_simp
  refine hK.out _ _ (HSV3a4.out) (fun hHeld=>?_)
  clear hK K
  try simp only [aP]
  refine rdy 8 ⟨some 81,.call ⟨ .value (.func 56),#[.tmp 79,.tmp 80],#[67,67]⟩,67,_,_,none⟩ rfl (fun K hK=>?_)
  go_simp
  refine (mulE V3a4 (HM6.out.under HSV3a4.out) j.y ch Hy.out Hch.out (by rw [←Eyh.out];exact Hyh.out)).mono ?_
  rintro e V3a48 ⟨rfl,hbN⟩
  have HSV3a48:=lH (HSV3a4.out.trans (hbN.mono HSV3a4.out.size))
  have A12V3a48:Hid (NumOr V3a48 g12 none):=lH (NumOr.under A12V3a4.out hbN)
  clear hbN
  clear HSV3a4 A12V3a4
  go_simp
  refine hK.out _ _ (HSV3a48.out) (fun hHeld=>?_)
  clear hK K
  try simp only [aP]
  refine rdy 9 ⟨some 82,.call ⟨ .value (.func 55),#[.tmp 77,.tmp 81],#[67,67]⟩,67,_,_,none⟩ rfl (fun K hK=>?_)
  go_simp
  refine (subE V3a48 (HM6.out.under HSV3a48.out) rv yh Hrv.out Hyh.out (by rw [←EY.out];exact HY.out)).mono ?_
  rintro e V3a489 ⟨rfl,hbN⟩
  have HSV3a489:=lH (HSV3a48.out.trans (hbN.mono HSV3a48.out.size))
  have A12V3a489:Hid (NumOr V3a489 g12 none):=lH (NumOr.under A12V3a48.out hbN)
  clear hbN
  clear HSV3a48 A12V3a48
  go_simp
  refine hK.out _ _ (HSV3a489.out) (fun hHeld=>?_)
  clear hK K
  try simp only [aP]
  refine rdy 11 ⟨none,.store 67 (.tmp 12) (.tmp 82),0,_,_,none⟩ rfl (fun K hK=>?_)
  obtain ⟨zv0,zv1,zv2,zv3,⟨z0,o0⟩,⟨z1,o1⟩,⟨z2,o2⟩,⟨z3,o3⟩⟩:=NumOr.facts A12V3a489.out
  obtain ⟨V3a489b,hN⟩:∃ W,W=((((V3a489.setCell ⟨g12,0,none⟩ (.int .u64 (Y0:Int))).setCell ⟨g12,1,none⟩ (.int .u64 (Y1:Int))).setCell ⟨g12,2,none⟩ (.int .u64 (Y2:Int))).setCell ⟨g12,3,none⟩ (.int .u64 (Y3:Int))):=⟨_,rfl⟩
  go_simp
  rw [←hN]
  have A12V3a489b:Hid (NumOr V3a489b g12 (some (en Y))):=lH (by rw [hN];exact NumOr.set A12V3a489.out HY.out)
  have HSV3a489b:=lH (by rw [hN];exact below4 HSV3a489.out HG12.out _ _ _ _:Below u6.heap.size u6 V3a489b)
  clear hN z0 o0 z1 o1 z2 o2 z3 o3 zv0 zv1 zv2 zv3
  clear HSV3a489 A12V3a489
  refine hK.out _ _ (HSV3a489b.out) (fun hHeld=>?_)
  clear hK K
  try simp only [aP]
  refine wpAnyH_done (by kernel_rfl) ?_ _
  refine NoPanic.normal ?_
  rw [HQ15.out]
  exact ⟨rfl,g12,rfl,rfl,HF.out _ HSV3a489b.out,A12V3a489b.out,HU0.out⟩
  refine AllReadyH.cons (o:=⟨some 12,.alloc 67,0,_,_,none⟩) rfl (fun K hK=>?_) AllReadyH.nil
  obtain ⟨Va,hN⟩:∃ W,W=V.alloc (.cells #[.int .u64 0,.int .u64 0,.int .u64 0,.int .u64 0] 67):=⟨_,rfl⟩
  go_simp
  rw [←hN]
  obtain ⟨g12,hg⟩:∃ g,g=V.heap.size:=⟨_,rfl⟩
  rw [←hg]
  have A12Va:Hid (NumOr Va g12 none):=lH (by rw [hN,hg];exact NumOr.fresh _)
  have HSVa:=lH (by rw [hN];exact HSV.out.alloc HSV.out.size _:Below u6.heap.size u6 Va)
  have HG12:Hid (u6.heap.size≤g12):=lH (by rw [hg];exact HSV.out.size)
  clear hN hg
  have HU0:=lH (show w.heap.size+1+1<g12 from (by have h1:=Holds.lt RB6.out;have h2:=HG12.out;omega))
  clear HSV
  refine hK.out _ _ (HSVa.out) (fun hHeld=>?_)
  clear hK K
  try simp only [aP]
  refine rdy 3 ⟨some 76,.call ⟨ .value (.func 55),#[.tmp 74,.tmp 75],#[67,67]⟩,67,_,_,none⟩ rfl (fun K hK=>?_)
  go_simp
  refine (subE Va (HM6.out.under HSVa.out) vv X Hvv.out HX.out (by rw [←Evx.out];exact Hvx.out)).mono ?_
  rintro e Va3 ⟨rfl,hbN⟩
  have HSVa3:=lH (HSVa.out.trans (hbN.mono HSVa.out.size))
  have A12Va3:Hid (NumOr Va3 g12 none):=lH (NumOr.under A12Va.out hbN)
  clear hbN
  clear HSVa A12Va
  go_simp
  refine hK.out _ _ (HSVa3.out) (fun hHeld=>?_)
  clear hK K
  try simp only [aP]
  refine rdy 4 ⟨some 77,.call ⟨ .value (.func 56),#[.tmp 73,.tmp 76],#[67,67]⟩,67,_,_,none⟩ rfl (fun K hK=>?_)
  go_simp
  refine (mulE Va3 (HM6.out.under HSVa3.out) ar vx Har.out Hvx.out (by rw [←Erv.out];exact Hrv.out)).mono ?_
  rintro e Va34 ⟨rfl,hbN⟩
  have HSVa34:=lH (HSVa3.out.trans (hbN.mono HSVa3.out.size))
  have A12Va34:Hid (NumOr Va34 g12 none):=lH (NumOr.under A12Va3.out hbN)
  clear hbN
  clear HSVa3 A12Va3
  go_simp
  refine hK.out _ _ (HSVa34.out) (fun hHeld=>?_)
  clear hK K
  try simp only [aP]
  refine rdy 8 ⟨some 81,.call ⟨ .value (.func 56),#[.tmp 79,.tmp 80],#[67,67]⟩,67,_,_,none⟩ rfl (fun K hK=>?_)
  go_simp
  refine (mulE Va34 (HM6.out.under HSVa34.out) j.y ch Hy.out Hch.out (by rw [←Eyh.out];exact Hyh.out)).mono ?_
  rintro e Va348 ⟨rfl,hbN⟩
  have HSVa348:=lH (HSVa34.out.trans (hbN.mono HSVa34.out.size))
  have A12Va348:Hid (NumOr Va348 g12 none):=lH (NumOr.under A12Va34.out hbN)
  clear hbN
  clear HSVa34 A12Va34
  go_simp
  refine hK.out _ _ (HSVa348.out) (fun hHeld=>?_)
  clear hK K
  try simp only [aP]
  refine rdy 9 ⟨some 82,.call ⟨ .value (.func 55),#[.tmp 77,.tmp 81],#[67,67]⟩,67,_,_,none⟩ rfl (fun K hK=>?_)
  go_simp
  refine (subE Va348 (HM6.out.under HSVa348.out) rv yh Hrv.out Hyh.out (by rw [←EY.out];exact HY.out)).mono ?_
  rintro e Va3489 ⟨rfl,hbN⟩
  have HSVa3489:=lH (HSVa348.out.trans (hbN.mono HSVa348.out.size))
  have A12Va3489:Hid (NumOr Va3489 g12 none):=lH (NumOr.under A12Va348.out hbN)
  clear hbN
  clear HSVa348 A12Va348
  go_simp
  refine hK.out _ _ (HSVa3489.out) (fun hHeld=>?_)
  clear hK K
  try simp only [aP]
  refine rdy 11 ⟨none,.store 67 (.tmp 12) (.tmp 82),0,_,_,none⟩ rfl (fun K hK=>?_)
  obtain ⟨zv0,zv1,zv2,zv3,⟨z0,o0⟩,⟨z1,o1⟩,⟨z2,o2⟩,⟨z3,o3⟩⟩:=NumOr.facts A12Va3489.out
  obtain ⟨Va3489b,hN⟩:∃ W,W=((((Va3489.setCell ⟨g12,0,none⟩ (.int .u64 (Y0:Int))).setCell ⟨g12,1,none⟩ (.int .u64 (Y1:Int))).setCell ⟨g12,2,none⟩ (.int .u64 (Y2:Int))).setCell ⟨g12,3,none⟩ (.int .u64 (Y3:Int))):=⟨_,rfl⟩
  go_simp
  rw [←hN]
  have A12Va3489b:Hid (NumOr Va3489b g12 (some (en Y))):=lH (by rw [hN];exact NumOr.set A12Va3489.out HY.out)
  have HSVa3489b:=lH (by rw [hN];exact below4 HSVa3489.out HG12.out _ _ _ _:Below u6.heap.size u6 Va3489b)
  clear hN z0 o0 z1 o1 z2 o2 z3 o3 zv0 zv1 zv2 zv3
  clear HSVa3489 A12Va3489
  refine hK.out _ _ (HSVa3489b.out) (fun hHeld=>?_)
  clear hK K
  try simp only [aP]
  refine wpAnyH_done (by kernel_rfl) ?_ _
  refine NoPanic.normal ?_
  rw [HQ15.out]
  exact ⟨rfl,g12,rfl,rfl,HF.out _ HSVa3489b.out,A12Va3489b.out,HU0.out⟩
 rintro e a u7 hq
 rw [HQ15.out] at hq
 obtain ⟨rfl,g12,htm,hdf,hst⟩:=hq
 have ST7:=lH hst
 clear hst HQ15 ST6
 obtain ⟨tm,df⟩:=a
 dsimp only at htm hdf
 subst hdf
 obtain ⟨U,hU⟩:∃ U:Nat→Value,∀ i,tm.getD i undef=U i:=⟨_,fun _=>rfl⟩
 simp only [tG,hU] at htm
 clear hU
 subst htm
 go_step
 go_step
 (repeat (first | (apply wp_seq_k;intro _ _) | apply wp_block))
 have BX7:=lH (ST7.out.1.1.1.1.1.1.1.1)
 have RB7:=lH (ST7.out.1.1.1.1.1.1.1.2.1)
 have HB7:=lH (ST7.out.1.1.1.1.1.1.1.2.2.1)
 have L6_7:=lH (ST7.out.1.1.1.1.1.2.1)
 have NB_6:=lH (ST7.out.1.1.1.1.1.2.2)
 have L11_7:=lH (ST7.out.1.2.1)
 have NB_11:=lH (ST7.out.1.2.2)
 have L12_7:=lH (ST7.out.2.1)
 have NB_12:=lH (ST7.out.2.2)
 have HMW:=lH (FV.out.1)
 have Hz:=lH (FV.out.2.2.2.2.2.2.2.2.2.1)
 have Hah:=lH (FU.out.2.2.2.2.2.2.2.2.2.2.2.1)
 have EZ:=lH (FW.out.2.2.2.2.2.2.2.2.2.2.2.1)
 have HX:=lH (FW.out.2.2.2.2.2.2.2.2.2.2.2.2.2.2.2.2.2.2.1)
 have HY:=lH (FW.out.2.2.2.2.2.2.2.2.2.2.2.2.2.2.2.2.2.2.2.2.2.2.1)
 have HZ:=lH (FW.out.2.2.2.2.2.2.2.2.2.2.2.2.2.2.2.2.2.2.2.2.2.2.2)
 clear ST7 FV FU FW
 refine wp_region_noPanic ?_
 refine wp_region_held_drew (S:=fun W=>NumOr W g11 (some (en X))∧NumOr W g12 (some (en Y))∧NumOr W g6 (some (en ah))∧Holds W w.heap.size 69 #[.int .u64 (x0:Int),.int .u64 (x1:Int),.int .u64 (x2:Int),.int .u64 (x3:Int),.int .u64 (y0:Int),.int .u64 (y1:Int),.int .u64 (y2:Int),.int .u64 (y3:Int),.int .u64 (z0:Int),.int .u64 (z1:Int),.int .u64 (z2:Int),.int .u64 (z3:Int)]∧Below w.heap.size w W) (by kernel_rfl) (⟨NumOr.drew L11_7.out,NumOr.drew L12_7.out,NumOr.drew L6_7.out,BX7.out,HB7.out.drew⟩) (fun hHeld=>?_)
 obtain ⟨V,hV⟩:∃ W,W=u7.drew:=⟨_,rfl⟩
 rw [←hV]
 have HSV:Hid ((fun W=>NumOr W g11 (some (en X))∧NumOr W g12 (some (en Y))∧NumOr W g6 (some (en ah))∧Holds W w.heap.size 69 #[.int .u64 (x0:Int),.int .u64 (x1:Int),.int .u64 (x2:Int),.int .u64 (x3:Int),.int .u64 (y0:Int),.int .u64 (y1:Int),.int .u64 (y2:Int),.int .u64 (y3:Int),.int .u64 (z0:Int),.int .u64 (z1:Int),.int .u64 (z2:Int),.int .u64 (z3:Int)]∧Below w.heap.size w W) V):=lH (by rw [hV];exact ⟨NumOr.drew L11_7.out,NumOr.drew L12_7.out,NumOr.drew L6_7.out,BX7.out,HB7.out.drew⟩)
 have HRV:Hid (Holds V (w.heap.size+1+1) 69 #[.int .u64 0,.int .u64 0,.int .u64 0,.int .u64 0,.int .u64 0,.int .u64 0,.int .u64 0,.int .u64 0,.int .u64 0,.int .u64 0,.int .u64 0,.int .u64 0]):=lH (by rw [hV];exact RB7.out)
 replace hHeld:(fun W=>NumOr W g11 (some (en X))∧NumOr W g12 (some (en Y))∧NumOr W g6 (some (en ah))∧Holds W w.heap.size 69 #[.int .u64 (x0:Int),.int .u64 (x1:Int),.int .u64 (x2:Int),.int .u64 (x3:Int),.int .u64 (y0:Int),.int .u64 (y1:Int),.int .u64 (y2:Int),.int .u64 (y3:Int),.int .u64 (z0:Int),.int .u64 (z1:Int),.int .u64 (z2:Int),.int .u64 (z3:Int)]∧Below w.heap.size w W) V:=HSV.out
 clear hV
 refine tk 0 ⟨some 83,.load 67 (.tmp 11),67,_,_,none⟩ ?_ rfl ?_ hHeld ?_
 rotate_left 1
 ·(intro W hW;have hBC:=hW.1.cells HX.out;obtain ⟨q0,q1,q2,q3⟩:=hBC;(try dsimp only at hW);go_simp;try with_reducible rfl)
 try simp only [aP]
 refine tk 1 ⟨some 84,.load 67 (.tmp 12),67,_,_,none⟩ ?_ rfl ?_ hHeld ?_
 rotate_left 1
 ·(intro W hW;have hBC:=hW.2.1.cells HY.out;obtain ⟨q0,q1,q2,q3⟩:=hBC;(try dsimp only at hW);go_simp;try with_reducible rfl)
 try simp only [aP]
 refine tk 2 ⟨some 85,.fieldAddr 69 (.tmp 2) 2,0,_,_,none⟩ ?_ rfl ?_ hHeld ?_
 rotate_left 1
 ·(intro W hW;(try dsimp only at hW);go_simp;try with_reducible rfl)
 try simp only [aP]
 refine tk 3 ⟨some 86,.load 67 (.tmp 85),67,_,_,none⟩ ?_ rfl ?_ hHeld ?_
 rotate_left 1
 ·(intro W hW;have hBB:=hW.2.2.2.1;have k8:=hBB.cell 8;have k9:=hBB.cell 9;have k10:=hBB.cell 10;have k11:=hBB.cell 11;(try dsimp only at hW);go_simp;try with_reducible rfl)
 try simp only [aP]
 refine tk 4 ⟨some 87,.load 67 (.tmp 6),67,_,_,none⟩ ?_ rfl ?_ hHeld ?_
 rotate_left 1
 ·(intro W hW;have hBC:=hW.2.2.1.cells Hah.out;obtain ⟨q0,q1,q2,q3⟩:=hBC;(try dsimp only at hW);go_simp;try with_reducible rfl)
 try simp only [aP]
 refine rdy 5 ⟨some 88,.call ⟨ .value (.func 56),#[.tmp 86,.tmp 87],#[67,67]⟩,67,_,_,none⟩ rfl (fun K hK=>?_)
 go_simp
 refine (mulE V (HMW.out.under HSV.out.2.2.2.2) j.z ah Hz.out Hah.out (by rw [←EZ.out];exact HZ.out)).mono ?_
 rintro e V1 ⟨rfl,hbN⟩
 have HSV1:Hid ((fun W=>NumOr W g11 (some (en X))∧NumOr W g12 (some (en Y))∧NumOr W g6 (some (en ah))∧Holds W w.heap.size 69 #[.int .u64 (x0:Int),.int .u64 (x1:Int),.int .u64 (x2:Int),.int .u64 (x3:Int),.int .u64 (y0:Int),.int .u64 (y1:Int),.int .u64 (y2:Int),.int .u64 (y3:Int),.int .u64 (z0:Int),.int .u64 (z1:Int),.int .u64 (z2:Int),.int .u64 (z3:Int)]∧Below w.heap.size w W) V1):=lH ⟨NumOr.under HSV.out.1 hbN,NumOr.under HSV.out.2.1 hbN,NumOr.under HSV.out.2.2.1 hbN,HSV.out.2.2.2.1.under hbN (Holds.lt HSV.out.2.2.2.1),HSV.out.2.2.2.2.trans (hbN.mono HSV.out.2.2.2.2.size)⟩
 have HRV1:=lH (HRV.out.under hbN (Holds.lt HRV.out))
 clear hbN
 go_simp
 refine hK.out _ _ (HSV1.out) (fun hHeld=>?_)
 clear hK K
 try simp only [aP]
 refine tk 6 ⟨some 89,.build 69 #[(0,.tmp 83),(1,.tmp 84),(2,.tmp 88)],69,_,_,none⟩ ?_ rfl ?_ hHeld ?_
 rotate_left 1
 ·(intro W hW;(try dsimp only at hW);go_simp;try with_reducible rfl)
 try simp only [aP]
 refine rdy 7 ⟨none,.store 69 (.tmp 4) (.tmp 89),0,_,_,none⟩ rfl (fun K hK=>?_)
 have zc0:=HRV1.out.cell 0
 have oc0:=HRV1.out.open_ 0
 have zc1:=HRV1.out.cell 1
 have oc1:=HRV1.out.open_ 1
 have zc2:=HRV1.out.cell 2
 have oc2:=HRV1.out.open_ 2
 have zc3:=HRV1.out.cell 3
 have oc3:=HRV1.out.open_ 3
 have zc4:=HRV1.out.cell 4
 have oc4:=HRV1.out.open_ 4
 have zc5:=HRV1.out.cell 5
 have oc5:=HRV1.out.open_ 5
 have zc6:=HRV1.out.cell 6
 have oc6:=HRV1.out.open_ 6
 have zc7:=HRV1.out.cell 7
 have oc7:=HRV1.out.open_ 7
 have zc8:=HRV1.out.cell 8
 have oc8:=HRV1.out.open_ 8
 have zc9:=HRV1.out.cell 9
 have oc9:=HRV1.out.open_ 9
 have zc10:=HRV1.out.cell 10
 have oc10:=HRV1.out.open_ 10
 have zc11:=HRV1.out.cell 11
 have oc11:=HRV1.out.open_ 11
 obtain ⟨VL,hN⟩:∃ W,W=((((((((((((V1.setCell ⟨w.heap.size+1+1,0,none⟩ (.int .u64 (X0:Int))).setCell ⟨w.heap.size+1+1,1,none⟩ (.int .u64 (X1:Int))).setCell ⟨w.heap.size+1+1,2,none⟩ (.int .u64 (X2:Int))).setCell ⟨w.heap.size+1+1,3,none⟩ (.int .u64 (X3:Int))).setCell ⟨w.heap.size+1+1,4,none⟩ (.int .u64 (Y0:Int))).setCell ⟨w.heap.size+1+1,5,none⟩ (.int .u64 (Y1:Int))).setCell ⟨w.heap.size+1+1,6,none⟩ (.int .u64 (Y2:Int))).setCell ⟨w.heap.size+1+1,7,none⟩ (.int .u64 (Y3:Int))).setCell ⟨w.heap.size+1+1,8,none⟩ (.int .u64 (Z0:Int))).setCell ⟨w.heap.size+1+1,9,none⟩ (.int .u64 (Z1:Int))).setCell ⟨w.heap.size+1+1,10,none⟩ (.int .u64 (Z2:Int))).setCell ⟨w.heap.size+1+1,11,none⟩ (.int .u64 (Z3:Int))):=⟨_,rfl⟩
 go_simp
 rw [←hN]
 have HRL:Hid (Holds VL (w.heap.size+1+1) 69 #[.int .u64 (X0:Int),.int .u64 (X1:Int),.int .u64 (X2:Int),.int .u64 (X3:Int),.int .u64 (Y0:Int),.int .u64 (Y1:Int),.int .u64 (Y2:Int),.int .u64 (Y3:Int),.int .u64 (Z0:Int),.int .u64 (Z1:Int),.int .u64 (Z2:Int),.int .u64 (Z3:Int)]):=lH (by rw [hN];exact set12 HRV1.out _ _ _ _ _ _ _ _ _ _ _ _)
 have HBL:Hid (Below w.heap.size w VL):=lH (by rw [hN];exact below12 HSV1.out.2.2.2.2 (by omega) _ _ _ _ _ _ _ _ _ _ _ _)
 have HSL:Hid ((fun W=>NumOr W g11 (some (en X))∧NumOr W g12 (some (en Y))∧NumOr W g6 (some (en ah))∧Holds W w.heap.size 69 #[.int .u64 (x0:Int),.int .u64 (x1:Int),.int .u64 (x2:Int),.int .u64 (x3:Int),.int .u64 (y0:Int),.int .u64 (y1:Int),.int .u64 (y2:Int),.int .u64 (y3:Int),.int .u64 (z0:Int),.int .u64 (z1:Int),.int .u64 (z2:Int),.int .u64 (z3:Int)]∧Below w.heap.size w W) VL):=lH ⟨by rw [hN];exact holds_aside12 HSV1.out.1 (k:=w.heap.size+1+1) (by have:=NB_11.out;omega) _ _ _ _ _ _ _ _ _ _ _ _,by rw [hN];exact holds_aside12 HSV1.out.2.1 (k:=w.heap.size+1+1) (by have:=NB_12.out;omega) _ _ _ _ _ _ _ _ _ _ _ _,by rw [hN];exact holds_aside12 HSV1.out.2.2.1 (k:=w.heap.size+1+1) (by have:=NB_6.out;omega) _ _ _ _ _ _ _ _ _ _ _ _,by rw [hN];exact holds_aside12 HSV1.out.2.2.2.1 (k:=w.heap.size+1+1) (by omega) _ _ _ _ _ _ _ _ _ _ _ _,HBL.out⟩
 clear hN zc0 oc0 zc1 oc1 zc2 oc2 zc3 oc3 zc4 oc4 zc5 oc5 zc6 oc6 zc7 oc7 zc8 oc8 zc9 oc9 zc10 oc10 zc11 oc11
 refine hK.out _ _ (HSL.out) (fun hHeld=>?_)
 clear hK K
 try simp only [aP]
 refine wpAnyH_done (by kernel_rfl) ?_ _
 refine NoPanic.normal ?_
 go_wp2_with fail
 exact ret_wd (g:=w.heap.size+1+1) rfl rfl HRL.out rfl ⟨rfl,HBL.out⟩
end Go.Proofs.YtflfdglpljodbaaDoor
